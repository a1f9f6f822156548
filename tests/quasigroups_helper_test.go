package tests

import (
	"math"
	"slices"
	"strings"

	"loop.example/g01130/impl"
)

// tableOf makes a table of its text, whether it is a quasigroup or not.
func tableOf(text string) [][]int64 {
	table := [][]int64{}
	for row := range strings.SplitSeq(text, "/") {
		numbers := []int64{}
		for _, symbol := range row {
			numbers = append(numbers, int64(strings.IndexRune(allSymbols, symbol)))
		}
		table = append(table, numbers)
	}
	return table
}

func textOf(table [][]int64) string {
	rows := []string{}
	for _, row := range table {
		text := ""
		for _, number := range row {
			text += allSymbols[number : number+1]
		}
		rows = append(rows, text)
	}
	return strings.Join(rows, "/")
}

func columnOf(table [][]int64, y int) []int64 {
	column := []int64{}
	for _, row := range table {
		column = append(column, row[y])
	}
	return column
}

// isLatin holds each row and each column against the numbers that it must have.
func isLatin(table [][]int64) bool {
	order := len(table)
	hasAll := func(line []int64) bool {
		sorted := slices.Sorted(slices.Values(line))
		return slices.Equal(sorted, countedList(order))
	}
	for _, row := range table {
		if !hasAll(row) {
			return false
		}
	}
	for y := range order {
		if !hasAll(columnOf(table, y)) {
			return false
		}
	}
	return order >= 1 && order <= 36
}

// tablesOver returns all tables of an order with numbers less than it, in ascending order.
func tablesOver(order int) [][][]int64 {
	tables := [][][]int64{}
	symbols := wordsOver(int64(order), order*order)
	for _, word := range symbols {
		rows := []string{}
		for x := range order {
			rows = append(rows, word[x*order:(x+1)*order])
		}
		tables = append(tables, tableOf(strings.Join(rows, "/")))
	}
	return tables
}

// quasigroupsOf returns all quasigroups of an order in ascending order: each row is an order that agrees with those above it.
func quasigroupsOf(order int64) [][][]int64 {
	orders := ordersOf(order)
	tables := [][][]int64{{}}
	for range order {
		longer := [][][]int64{}
		for _, table := range tables {
			for _, row := range orders {
				if !hasClashInColumn(table, row) {
					longer = append(longer, append(slices.Clip(table), row))
				}
			}
		}
		tables = longer
	}
	return tables
}

func hasClashInColumn(table [][]int64, row []int64) bool {
	for _, above := range table {
		for y, number := range row {
			if above[y] == number {
				return true
			}
		}
	}
	return false
}

// linearTable goes through all cells of a x + b y + c.
func linearTable(order, a, b, c int64) [][]int64 {
	table := [][]int64{}
	for x := range order {
		row := []int64{}
		for y := range order {
			row = append(row, (a*x+b*y+c)%order)
		}
		table = append(table, row)
	}
	return table
}

// shuffled returns an order of things that looks arbitrary.
func shuffled(number func(int64) int64, order int) []int64 {
	list := countedList(order)
	for i := order - 1; i > 0; i-- {
		k := number(int64(i + 1))
		list[i], list[k] = list[k], list[i]
	}
	return list
}

// renamed has the number values[x * y] in the row rows[x] and the column columns[y].
func renamed(table [][]int64, rows, columns, values []int64) [][]int64 {
	result := linearTable(int64(len(table)), 0, 0, 0)
	for x, row := range table {
		for y, number := range row {
			result[rows[x]][columns[y]] = values[number]
		}
	}
	return result
}

// mixedTable is the table of sums with other rows, columns and numbers.
func mixedTable(seed int64, order int) [][]int64 {
	number := numbersFrom(seed)
	return renamed(linearTable(int64(order), 1, 1, 0), shuffled(number, order), shuffled(number, order), shuffled(number, order))
}

// writtenTables are quasigroups that no formula of this file makes.
var writtenTables = []string{
	"0123/1032/2301/3210", "01234/10342/23401/34120/42013", "012345/120453/201534/345102/453210/534021",
	"012345/103254/245013/354102/420531/531420",
}

// someQuasigroups are of many orders, and few enough to go through all triples of each.
func someQuasigroups() [][][]int64 {
	tables := [][][]int64{{{0}}, tableOf("01/10"), tableOf("10/01")}
	tables = append(tables, quasigroupsOf(3)...)
	tables = append(tables, quasigroupsOf(4)[:300:300]...)
	for _, text := range writtenTables {
		tables = append(tables, tableOf(text))
		for seed := range int64(6) {
			number := numbersFrom(seed)
			order := len(tableOf(text))
			tables = append(tables, renamed(tableOf(text), shuffled(number, order), shuffled(number, order), shuffled(number, order)))
		}
	}
	for order := 5; order <= 36; order++ {
		tables = append(tables, mixedTable(int64(order), order), mixedTable(int64(100+order), order))
	}
	return append(tables, linearTable(36, 1, 35, 35), linearTable(35, 2, 34, 0))
}

// changedTable returns a quasigroup in which one thing has been changed.
func changedTable(change func(table [][]int64) [][]int64) [][]int64 {
	return change(tableOf("0123/1032/2301/3210"))
}

func withNumber(x, y int, number int64) [][]int64 {
	return changedTable(func(table [][]int64) [][]int64 {
		table[x][y] = number
		return table
	})
}

func invalidTables() [][][]int64 {
	tables := [][][]int64{
		nil, {}, {nil}, {{}}, {{1}}, {{-1}}, {{0, 0}}, {{0, 1}}, {{0}, {0}}, {{0}, {1}}, {nil, nil}, {{0}, nil}, {nil, {0}},
		tableOf("00/00"), tableOf("00/11"), tableOf("01/01"), tableOf("01/11"), tableOf("11/00"), tableOf("12/21"), tableOf("02/20"),
		tableOf("01/10/01"), tableOf("01/1"), tableOf("0/10"), tableOf("012/10"), tableOf("01/102"), tableOf("01"), tableOf("012/120"),
		tableOf("012/120/201/012"), tableOf("0120/1201/2012"), tableOf("012/120/20"), tableOf("012/12/201"), tableOf("01/120/201"),
		tableOf("0123/120/201"), tableOf("012/120/2013"), tableOf("012/120/210"), tableOf("021/120/201"), tableOf("123/231/312"),
		// All rows have each number once, or all columns have.
		tableOf("012/012/012"), tableOf("000/111/222"), tableOf("0123/1032/2301/2310"), tableOf("0122/1033/2301/3210"),
		// A number is three times in the first row and the first column, and the numbers beside it are not there.
		tableOf("000/021/012"), tableOf("0003/1032/2301/3210"), tableOf("0123/0032/0301/3210"),
		linearTable(36, 2, 1, 0), linearTable(36, 1, 3, 0), linearTable(36, 0, 0, 35), linearTable(37, 1, 1, 0), linearTable(37, 2, 36, 5),
		linearTable(36, 1, 1, 0)[:35], append(linearTable(36, 1, 1, 0), countedList(36)), linearTable(64, 1, 1, 0), linearTable(100, 1, 1, 0),
		make([][]int64, 36), make([][]int64, 37), make([][]int64, 1000), {make([]int64, 1000)},
		changedTable(func(table [][]int64) [][]int64 { return table[:3] }),
		changedTable(func(table [][]int64) [][]int64 { return append(table, table[0]) }),
		changedTable(func(table [][]int64) [][]int64 { return append(table, nil) }),
	}
	for x := range 4 {
		tables = append(tables,
			changedTable(func(table [][]int64) [][]int64 { table[x] = nil; return table }),
			changedTable(func(table [][]int64) [][]int64 { table[x] = table[x][:3]; return table }),
			changedTable(func(table [][]int64) [][]int64 { table[x] = append(table[x], 4); return table }),
			changedTable(func(table [][]int64) [][]int64 { table[x] = table[(x+1)%4]; return table }))
		for y := range 4 {
			for _, number := range []int64{math.MinInt64, -64, -1, 0, 1, 2, 3, 4, 36, 63, 64, 65, 1 << 32, math.MaxInt64} {
				if table := withNumber(x, y, number); !slices.Equal(table[x], tableOf("0123/1032/2301/3210")[x]) {
					tables = append(tables, table)
				}
			}
		}
	}
	return tables
}

// slowSwapClashes goes through all pairs.
func slowSwapClashes(table [][]int64) int64 {
	clashes := int64(0)
	for x := range table {
		for y := range table {
			if x < y && table[x][y] == table[y][x] {
				clashes++
			}
		}
	}
	return clashes
}

// slowClashesBehind goes through all pairs behind the number c.
func slowClashesBehind(table [][]int64, c int) int64 {
	clashes := int64(0)
	for x := range table {
		for y := range table {
			if x < y && table[table[c][x]][y] == table[table[c][y]][x] {
				clashes++
			}
		}
	}
	return clashes
}

func slowChainClashes(table [][]int64) int64 {
	clashes := int64(0)
	for c := range table {
		clashes += slowClashesBehind(table, c)
	}
	return clashes
}

func isTotal(table [][]int64) bool {
	return slowSwapClashes(table) == 0 && slowChainClashes(table) == 0
}

// pairChain leads from each state with a digit to this digit at the first place, and by the table at those behind it:
// at the first two places, words lead to the numbers x * y.
func pairChain(table [][]int64, places int) impl.Chain {
	order := int64(len(table))
	c := impl.Chain{Base: order, States: order, Tables: [][][]int64{linearTable(order, 0, 1, 0), table}, Places: slices.Repeat([]int64{1}, places)}
	c.Places[0] = 0
	return c
}
