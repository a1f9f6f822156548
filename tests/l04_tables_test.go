package tests

import (
	"math"
	"slices"
	"strings"
	"testing"

	"loop.example/g01130/impl"
)

const noTable = `[] false`

func TestPromise5ExamplesOfTheChapter(t *testing.T) {
	sum, ok := impl.ReadTable("021/210/102")
	expect(t, say(sum, ok), say(linearTable(3, 2, 2, 0), true))
	expect(t, say(impl.LinearTable(3, 2, 2, 0)), say(sum, true))
	expect(t, say(impl.SwapClashes(sum)), `3 true`)
	first, ok := impl.ReadTable("012/201/120")
	expect(t, say(first, ok), say(linearTable(3, 2, 1, 0), true))
	expect(t, say(impl.LinearTable(3, 2, 1, 0)), say(first, true))
	expect(t, say(impl.FirstTotally(3)), say(first, true))
	expect(t, say(impl.IsTotally(first)), `true`)
	expect(t, say(impl.FirstTotally(2)), noTable)
}

// All tables of the orders 1 to 3 are tried, and of the order 4 all whose rows have each number once.
func TestPromise5QuasigroupsAmongAllTables(t *testing.T) {
	for order, want := range []int{1: 1, 2: 2, 3: 12} {
		if order == 0 {
			continue
		}
		count := 0
		for _, table := range tablesOver(order) {
			is := impl.IsQuasigroup(table)
			if is {
				count++
			}
			if is != isLatin(table) {
				t.Errorf("%v is taken for a quasigroup: %v", table, is)
			}
		}
		expect(t, say(order, count, len(quasigroupsOf(int64(order)))), say(order, want, want))
	}
	count := 0
	orders := ordersOf(4)
	for _, word := range wordsOver(24, 4) {
		table := [][]int64{}
		for _, symbol := range word {
			table = append(table, orders[strings.IndexRune(allSymbols, symbol)])
		}
		if impl.IsQuasigroup(table) {
			count++
		}
	}
	expect(t, say(count, len(quasigroupsOf(4))), `576 576`)
}

func TestPromise5QuasigroupsOfAllOrders(t *testing.T) {
	for _, table := range someQuasigroups() {
		if !impl.IsQuasigroup(table) || !isLatin(table) {
			t.Errorf("%v is a quasigroup", table)
		}
	}
	for order := int64(1); order <= 70; order++ {
		table := linearTable(order, 1, 1, 0)
		expect(t, say(order, impl.IsQuasigroup(table)), say(order, order <= 36))
	}
}

func TestPromise5InvalidTables(t *testing.T) {
	valid := tableOf("012/201/120")
	for _, table := range invalidTables() {
		order := countedList(len(table))
		expectAll(t, `false`, say(impl.IsQuasigroup(table)), say(impl.IsTotally(table)))
		for kind := range int64(5) {
			expect(t, say(impl.TurnTable(table, kind)), noTable)
		}
		expectAll(t, noTable, say(impl.RenameTable(table, order, order, order)), say(impl.ZeroDiagonal(table)),
			say(impl.ProductTable(table, valid)), say(impl.ProductTable(valid, table)), say(impl.ProductTable(table, table)),
			say(impl.ProductTable(table, tableOf("0"))), say(impl.ProductTable(tableOf("0"), table)))
		expectAll(t, `0 false`, say(impl.SwapClashes(table)), say(impl.ChainClashes(table)))
		expectAll(t, say(impl.Chain{}, false), say(impl.TableChain(table, 1)), say(impl.TableChain(table, 3)))
		expect(t, say(impl.TableText(table)), `"" false`)
		if t.Failed() {
			t.Fatalf("with the invalid table %v", table)
		}
	}
}

// In a quasigroup, a number that is changed alone is there twice, in its row and its column.
func TestPromise5QuasigroupsWithOneOtherNumber(t *testing.T) {
	for _, table := range someQuasigroups() {
		order := int64(len(table))
		number := numbersFrom(order)
		for range 20 {
			x, y, other := number(order), number(order), number(order+2)-1
			if other == table[x][y] {
				continue
			}
			wrong := renamed(table, countedList(int(order)), countedList(int(order)), countedList(int(order)))
			wrong[x][y] = other
			if impl.IsQuasigroup(wrong) {
				t.Errorf("%v is no quasigroup", wrong)
			}
		}
	}
}

// turnedTriple follows the list of kinds in the document.
func turnedTriple(kind, x, y, z int64) (int64, int64, int64) {
	switch kind {
	case 0:
		return y, x, z
	case 1:
		return x, z, y
	case 2:
		return z, y, x
	case 3:
		return y, z, x
	}
	return z, x, y
}

func TestPromise5TurnedTablesHaveTheirTriplesInAnotherOrder(t *testing.T) {
	for _, table := range someQuasigroups() {
		for kind := range int64(5) {
			turned, ok := impl.TurnTable(table, kind)
			if !ok || !isLatin(turned) || len(turned) != len(table) {
				t.Fatalf("%v turned by %d is %v", table, kind, turned)
			}
			for x, row := range table {
				for y, z := range row {
					a, b, c := turnedTriple(kind, int64(x), int64(y), z)
					if turned[a][b] != c {
						t.Fatalf("%v turned by %d is %v", table, kind, turned)
					}
				}
			}
		}
	}
}

func TestPromise5TurnsUndoEachOther(t *testing.T) {
	undo := []int64{0, 1, 2, 4, 3}
	for _, table := range someQuasigroups() {
		for kind, back := range undo {
			turned, _ := impl.TurnTable(table, int64(kind))
			expect(t, say(impl.TurnTable(turned, back)), say(table, true))
		}
	}
}

func TestPromise5TurnsOfSomeTables(t *testing.T) {
	// With z = 2 x + y + 1 modulo 5, y is 3 x + z + 4, and x is 3 z + 2 y + 2.
	linear := linearTable(5, 2, 1, 1)
	for kind, want := range [][][]int64{
		linearTable(5, 1, 2, 1), linearTable(5, 3, 1, 4), linearTable(5, 3, 2, 2), linearTable(5, 2, 3, 2), linearTable(5, 1, 3, 4),
	} {
		expect(t, say(kind)+" "+say(impl.TurnTable(linear, int64(kind))), say(kind, want, true))
		// There are too few tables of one or two numbers for a turned one to differ.
		for _, text := range []string{"0", "01/10", "10/01"} {
			expect(t, say(impl.TurnTable(tableOf(text), int64(kind))), say(tableOf(text), true))
		}
	}
}

func TestPromise5TurnsThatAreNone(t *testing.T) {
	for _, table := range [][][]int64{tableOf("0"), tableOf("01/10"), tableOf("012/201/120"), linearTable(36, 1, 1, 0)} {
		for _, kind := range []int64{math.MinInt64, -5, -1, 5, 6, 36, 1 << 32, math.MaxInt64} {
			expect(t, say(impl.TurnTable(table, kind)), noTable)
		}
	}
}

func TestPromise5RenamedTables(t *testing.T) {
	for i, table := range someQuasigroups() {
		number := numbersFrom(int64(i))
		order := len(table)
		rows, columns, values := shuffled(number, order), shuffled(number, order), shuffled(number, order)
		result, ok := impl.RenameTable(table, rows, columns, values)
		expect(t, say(result, ok), say(renamed(table, rows, columns, values), true))
		same := countedList(order)
		expect(t, say(impl.RenameTable(table, same, same, same)), say(table, true))
	}
	table := tableOf("0123/1032/2301/3210")
	for _, order := range ordersOf(4) {
		same := countedList(4)
		expect(t, say(impl.RenameTable(table, order, same, same)), say(renamed(table, order, same, same), true))
		expect(t, say(impl.RenameTable(table, same, order, same)), say(renamed(table, same, order, same), true))
		expect(t, say(impl.RenameTable(table, same, same, order)), say(renamed(table, same, same, order), true))
	}
	named, ok := impl.RenameTable(tableOf("012/201/120"), []int64{1, 2, 0}, []int64{0, 1, 2}, []int64{0, 1, 2})
	expect(t, say(textOf(named), ok), `"120/012/201" true`)
	named, ok = impl.RenameTable(tableOf("012/201/120"), []int64{0, 1, 2}, []int64{1, 2, 0}, []int64{0, 1, 2})
	expect(t, say(textOf(named), ok), `"201/120/012" true`)
	named, ok = impl.RenameTable(tableOf("012/201/120"), []int64{0, 1, 2}, []int64{0, 1, 2}, []int64{1, 2, 0})
	expect(t, say(textOf(named), ok), `"120/012/201" true`)
}

func TestPromise5OrdersThatDoNotRename(t *testing.T) {
	good := []int64{2, 0, 1}
	table := tableOf("012/201/120")
	for _, bad := range [][]int64{
		nil, {}, {0}, {0, 1}, {1, 0}, {0, 1, 2, 3}, {0, 0, 1}, {1, 1, 2}, {0, 1, 1}, {0, 1, 3}, {1, 2, 3}, {-1, 0, 1}, {0, 1, -2},
		{0, 1, math.MaxInt64}, {math.MinInt64, 0, 1}, {0, 1, 1 << 32}, turned(4), turned(36), turned(37), make([]int64, 1000),
	} {
		expectAll(t, noTable, say(impl.RenameTable(table, bad, good, good)), say(impl.RenameTable(table, good, bad, good)),
			say(impl.RenameTable(table, good, good, bad)), say(impl.RenameTable(table, bad, bad, bad)))
	}
	expectAll(t, noTable, say(impl.RenameTable(tableOf("0"), nil, nil, nil)), say(impl.RenameTable(tableOf("0"), []int64{1}, []int64{0}, []int64{0})),
		say(impl.RenameTable(tableOf("01/10"), []int64{0}, []int64{0}, []int64{0})), say(impl.RenameTable(linearTable(36, 1, 1, 0), turned(36), turned(36), turned(35))))
	expect(t, say(impl.RenameTable(tableOf("0"), []int64{0}, []int64{0}, []int64{0})), say(tableOf("0"), true))
}

func sortedColumns(table [][]int64) string {
	columns := [][]int64{}
	for y := range table {
		columns = append(columns, columnOf(table, y))
	}
	slices.SortFunc(columns, slices.Compare)
	return say(columns)
}

func TestPromise5ZeroDiagonalsHaveTheSameColumns(t *testing.T) {
	unchanged, twice := 0, 0
	for _, table := range someQuasigroups() {
		zero, ok := impl.ZeroDiagonal(table)
		if !ok || len(zero) != len(table) {
			t.Fatalf("%v has no zero diagonal", table)
		}
		diagonal := map[int64]bool{}
		for x := range zero {
			diagonal[table[x][x]] = true
			if zero[x][x] != 0 {
				t.Fatalf("%v has with a zero diagonal %v", table, zero)
			}
		}
		expect(t, sortedColumns(zero), sortedColumns(table))
		expect(t, say(impl.ZeroDiagonal(zero)), say(zero, true))
		if len(diagonal) < len(table) {
			twice++
		}
		if diagonal[0] && len(diagonal) == 1 {
			unchanged++
			expect(t, say(zero), say(table))
		}
	}
	if unchanged < 10 || twice < 100 {
		t.Errorf("just %d diagonals are 0 already, and %d have a number twice", unchanged, twice)
	}
}

func TestPromise5ZeroDiagonals(t *testing.T) {
	for text, want := range map[string]string{
		"0": "0", "01/10": "01/10", "10/01": "01/10", "012/120/201": "021/102/210", "120/012/201": "012/201/120", "012/201/120": "012/201/120",
		// The diagonal is 0 already, it is another number, and it has a number twice.
		"0123/1032/2301/3210": "0123/1032/2301/3210", "1032/0123/3210/2301": "0123/1032/2301/3210", "0123/1230/2301/3012": "0321/1032/2103/3210",
		"01234/10342/23401/34120/42013": "01342/10423/23014/34201/42130",
	} {
		zero, ok := impl.ZeroDiagonal(tableOf(text))
		expect(t, say(text, textOf(zero), ok), say(text, want, true))
	}
}

func TestPromise5TextsOfTables(t *testing.T) {
	for _, table := range someQuasigroups() {
		text := textOf(table)
		expect(t, say(impl.TableText(table)), say(text, true))
		expect(t, say(impl.ReadTable(text)), say(table, true))
	}
	great := linearTable(36, 1, 1, 0)
	text, ok := impl.TableText(great)
	expect(t, say(text[:38], len(text), ok), say(allSymbols+"/1", 36*37-1, true))
}

func TestPromise5TextsOfNoTable(t *testing.T) {
	for _, text := range []string{
		"", "/", "//", "1", "A", "00", "0/", "/0", "0/0", "none", "0 ", " 0", "+0", "-0", "0\n", "\n0", "0\x00", "\x00", "\xff", "０", "a", "é",
		"01/10/", "/01/10", "01//10", "01/10/01", "01/10//", "01", "01/1", "0/10", "0110", "01 10", "01,10", "01\\10", "01/10\n", "01\n10",
		"01/ 10", " 01/10", "01 /10", "01/10 ", "0 1/1 0", "+01/10", "01/+10", "-01/10", "01/-10", "01/1-0", "001/010", "01/010", "001/10", "00/11", "01/01",
		"11/00", "02/20", "12/21", "ab/ba", "AB/BA", "0a/a0", "012/201", "012/201/12", "012/201/1200", "012/201/120/012", "012/012/012", "012/201/121",
		"012/201/12０", "12/21/", "0/1", "01/1\xb0", "01\xff10", "0123456789A", strings.Repeat("/", 100000), strings.Repeat("0", 100000), strings.Repeat("0/", 100000),
		textOf(linearTable(36, 2, 1, 0)), textOf(linearTable(36, 1, 1, 0)) + "/", textOf(linearTable(36, 1, 1, 0)) + "/" + allSymbols, textOf(linearTable(36, 1, 1, 0)[:35]),
		strings.ToLower(textOf(linearTable(11, 1, 1, 0))), strings.ReplaceAll(textOf(linearTable(36, 1, 1, 0)), "Z", "["),
		strings.ReplaceAll(textOf(linearTable(36, 1, 1, 0)), "9", ":"),
	} {
		expect(t, say(impl.ReadTable(text)), noTable)
	}
}

func TestPromise5MadeTablesHaveMemoryOfTheirOwn(t *testing.T) {
	table := tableOf("012/201/120")
	same := countedList(3)
	turned, _ := impl.TurnTable(table, 0)
	named, _ := impl.RenameTable(table, same, same, same)
	zero, _ := impl.ZeroDiagonal(table)
	product, _ := impl.ProductTable(table, tableOf("0"))
	c, _ := impl.TableChain(table, 2)
	first, _ := impl.FirstTotally(3)
	want := say(turned, named, zero, product, c, first)
	table[0][0], table[2][1] = 7, 8
	other, _ := impl.FirstTotally(3)
	other[0][0], other[2] = 9, nil
	expect(t, say(turned, named, zero, product, c, first), want)
	named[0][0] = 5
	expect(t, say(same, textOf(zero)), `[0 1 2] "012/201/120"`)
}
