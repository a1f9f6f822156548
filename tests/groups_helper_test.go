package tests

import (
	"math"
	"slices"

	"loop.example/g01130/impl"
)

func groupOf(table [][]int64) impl.Group {
	return impl.Group{Table: table}
}

func groupOfText(text string) impl.Group {
	return groupOf(tableOf(text))
}

// dihedralTable has the maps from i to x + i, and for n + x to x - i, and as their product what y and then x do, modulo n.
func dihedralTable(n int64) [][]int64 {
	does := func(x, i int64) int64 {
		if x < n {
			return x + i
		}
		return x - n - i
	}
	table := linearTable(2*n, 0, 0, 0)
	for x := range 2 * n {
		for y := range 2 * n {
			zero, one := does(x, does(y, 0)), does(x, does(y, 1))
			table[x][y] = (zero + 2*n) % n
			if one < zero {
				table[x][y] += n
			}
		}
	}
	return table
}

// namedGroup is a table of each group of at most ten elements, with what theorems tell of its mappings.
type namedGroup struct {
	name                                string
	table                               [][]int64
	commutative, complete, antisymmetry bool
}

const quaternionText = "01234567/12305674/23016745/30127456/47652103/54763210/65470321/76541032"

// allGroups has complete mappings where the subgroup with a power of two elements is no cyclic one, but that of one element.
// Of the groups that are not commutative, all have antisymmetric orders.
func allGroups() []namedGroup {
	cyclic := func(n int64) [][]int64 { return linearTable(n, 1, 1, 0) }
	product := slowProduct
	return []namedGroup{
		{"1", cyclic(1), true, true, true},
		{"2", cyclic(2), true, false, false},
		{"3", cyclic(3), true, true, true},
		{"4", cyclic(4), true, false, false},
		{"2x2", product(cyclic(2), cyclic(2)), true, true, true},
		{"5", cyclic(5), true, true, true},
		{"6", cyclic(6), true, false, false},
		{"dihedral 3", dihedralTable(3), false, false, true},
		{"7", cyclic(7), true, true, true},
		{"8", cyclic(8), true, false, false},
		{"4x2", product(cyclic(4), cyclic(2)), true, true, true},
		{"2x2x2", product(cyclic(2), product(cyclic(2), cyclic(2))), true, true, true},
		{"dihedral 4", dihedralTable(4), false, true, true},
		{"quaternions", tableOf(quaternionText), false, true, true},
		{"9", cyclic(9), true, true, true},
		{"3x3", product(cyclic(3), cyclic(3)), true, true, true},
		{"10", cyclic(10), true, false, false},
		{"dihedral 5", dihedralTable(5), false, false, true},
	}
}

// withNames gives the elements of a group other names, so that another element can be the identity.
func withNames(table [][]int64, order []int64) [][]int64 {
	return renamed(table, order, order, order)
}

// renamedGroups returns each group with its own names and with some others: the identity is 0, the last element, and any one.
func renamedGroups() []namedGroup {
	groups := []namedGroup{}
	for i, g := range allGroups() {
		size := len(g.table)
		number := numbersFrom(int64(i))
		backwards := countedList(size)
		slices.Reverse(backwards)
		for _, order := range [][]int64{countedList(size), backwards, shuffled(number, size), shuffled(number, size)} {
			other := g
			other.table = withNames(g.table, order)
			groups = append(groups, other)
		}
	}
	return groups
}

// slowIdentity returns -1 if there is none.
func slowIdentity(table [][]int64) int64 {
	for e := range table {
		if slices.Equal(table[e], countedList(len(table))) && slices.Equal(columnOf(table, e), countedList(len(table))) {
			return int64(e)
		}
	}
	return -1
}

// slowInverse returns -1 if there is none.
func slowInverse(table [][]int64, x int64) int64 {
	e := slowIdentity(table)
	for y, product := range table[x] {
		if product == e && table[y][x] == e {
			return int64(y)
		}
	}
	return -1
}

func isBracketFree(table [][]int64) bool {
	for x := range table {
		for y, xy := range table[x] {
			for z, yz := range table[y] {
				if table[xy][z] != table[x][yz] {
					return false
				}
			}
		}
	}
	return true
}

// isGroup takes tables with as many rows as columns, and with numbers less than these.
func isGroup(table [][]int64) bool {
	if len(table) > 10 || slowIdentity(table) < 0 || !isBracketFree(table) {
		return false
	}
	for x := range table {
		if slowInverse(table, int64(x)) < 0 {
			return false
		}
	}
	return true
}

// slowPower squares for each binary digit of n.
func slowPower(table [][]int64, x, n int64) int64 {
	if n == 0 {
		return slowIdentity(table)
	}
	half := slowPower(table, x, n/2)
	power := table[half][half]
	if n%2 == 1 {
		power = table[x][power]
	}
	return power
}

func slowCentre(table [][]int64) []int64 {
	centre := []int64{}
	for x := range table {
		if slices.Equal(table[x], columnOf(table, x)) {
			centre = append(centre, int64(x))
		}
	}
	return centre
}

// slowSubgroup multiplies all elements with one another until nothing new comes.
func slowSubgroup(table [][]int64, elements []int64) []int64 {
	in := make([]bool, len(table))
	in[slowIdentity(table)] = true
	for _, x := range elements {
		in[x] = true
	}
	for again := true; again; {
		again = false
		for x := range table {
			for y, product := range table[x] {
				if in[x] && in[y] && !in[product] {
					in[product], again = true, true
				}
			}
		}
	}
	subgroup := []int64{}
	for x := range table {
		if in[x] {
			subgroup = append(subgroup, int64(x))
		}
	}
	return subgroup
}

func slowIsComplete(table [][]int64, order []int64) bool {
	products := make([]bool, len(table))
	for x, to := range order {
		if products[table[x][to]] {
			return false
		}
		products[table[x][to]] = true
	}
	return true
}

// slowSwaps counts the pairs x < y that an order does not tell from y and x.
func slowSwaps(table [][]int64, order []int64) int64 {
	swaps := int64(0)
	for y := range table {
		for x := range y {
			if table[x][order[y]] == table[y][order[x]] {
				swaps++
			}
		}
	}
	return swaps
}

func slowIsAntisymmetric(table [][]int64, order []int64) bool {
	for y := range table {
		for x := range y {
			if table[x][order[y]] == table[y][order[x]] {
				return false
			}
		}
	}
	return true
}

// nextOrder makes of an order the next one in ascending order, and reports whether there is one.
func nextOrder(order []int64) bool {
	i := len(order) - 2
	for i >= 0 && order[i] > order[i+1] {
		i--
	}
	if i < 0 {
		return false
	}
	k := len(order) - 1
	for order[k] < order[i] {
		k--
	}
	order[i], order[k] = order[k], order[i]
	slices.Reverse(order[i+1:])
	return true
}

// firstMapping goes through all orders; it is nil if there is none.
func firstMapping(table [][]int64, is func(table [][]int64, order []int64) bool) []int64 {
	order := countedList(len(table))
	for !is(table, order) {
		if !nextOrder(order) {
			return nil
		}
	}
	return order
}

// withZero adds an element whose products are all itself: all others keep theirs.
func withZero(table [][]int64) [][]int64 {
	size := int64(len(table))
	zeros := slices.Repeat([]int64{size}, len(table)+1)
	longer := [][]int64{}
	for _, row := range table {
		longer = append(longer, append(slices.Clip(row), size))
	}
	return append(longer, zeros)
}

// withIdentity adds an identity, beside which no other element has an inverse.
func withIdentity(table [][]int64) [][]int64 {
	longer := [][]int64{}
	for x, row := range table {
		longer = append(longer, append(slices.Clip(row), int64(x)))
	}
	return append(longer, countedList(len(table)+1))
}

// productsModulo has the products of remainders.
func productsModulo(n int64) [][]int64 {
	table := linearTable(n, 0, 0, 0)
	for x := range n {
		for y := range n {
			table[x][y] = x * y % n
		}
	}
	return table
}

// greaterTable has the greater one of two elements as their product.
func greaterTable(n int64) [][]int64 {
	table := linearTable(n, 0, 0, 0)
	for x := range n {
		for y := range n {
			table[x][y] = max(x, y)
		}
	}
	return table
}

// shapelessTables have too few or too many rows or columns, or numbers that are no elements.
func shapelessTables() [][][]int64 {
	tables := [][][]int64{
		nil, {}, {nil}, {{}}, {{1}}, {{-1}}, {{10}}, {{0, 0}}, {{0}, {0}}, {nil, nil}, {{0}, nil}, {nil, {0}}, {{0, 1}},
		{{0, 1}, {1}}, {{0}, {1, 0}}, {{0, 1}, {1, 0}, {0, 1}}, {{0, 1, 0}, {1, 0, 1}}, {{0, 1}, {1, 0, 1}}, {{0, 1, 0}, {1, 0}},
		linearTable(11, 1, 1, 0), dihedralTable(6), slowProduct(linearTable(2, 1, 1, 0), linearTable(6, 1, 1, 0)),
		make([][]int64, 10), make([][]int64, 11), make([][]int64, 1000), {make([]int64, 1000)},
		linearTable(10, 1, 1, 0)[:9], append(linearTable(10, 1, 1, 0), countedList(10)),
	}
	for x := range 4 {
		for _, change := range []func(table [][]int64){
			func(table [][]int64) { table[x] = nil },
			func(table [][]int64) { table[x] = table[x][:3] },
			func(table [][]int64) { table[x] = append(table[x], 0) },
		} {
			table := linearTable(4, 1, 1, 0)
			change(table)
			tables = append(tables, table)
		}
		for y := range 4 {
			for _, number := range []int64{math.MinInt64, -4, -1, 4, 5, 9, 10, 1 << 32, math.MaxInt64} {
				table := linearTable(4, 1, 1, 0)
				table[x][y] = number
				tables = append(tables, table)
			}
		}
	}
	return tables
}

// lawlessTables have the form of groups, and lack just what their kind says.
type lawlessTables struct {
	brackets, noIdentity, leftIdentity, rightIdentity, noInverse [][][]int64
}

func allLawless() lawlessTables {
	lawless := lawlessTables{
		// The last two are quasigroups.
		brackets:      [][][]int64{tableOf("012/100/200"), tableOf("012/101/210"), tableOf("01234/10342/24013/32401/43120"), loopOfTen()},
		noIdentity:    [][][]int64{tableOf("00/00"), tableOf("11/11"), tableOf("000/000/000"), linearTable(3, 2, 2, 0), linearTable(10, 3, 7, 1)},
		leftIdentity:  [][][]int64{tableOf("01/01"), tableOf("012/012/012"), tableOf("000/012/012"), linearTable(5, 2, 1, 0), linearTable(10, 0, 1, 0)},
		rightIdentity: [][][]int64{tableOf("00/11"), tableOf("000/111/222"), tableOf("000/011/022"), linearTable(5, 1, 2, 0), linearTable(10, 1, 0, 0)},
		noInverse: [][][]int64{
			tableOf("00/01"), tableOf("01/11"), greaterTable(3), greaterTable(10), withIdentity(tableOf("01/01")), withIdentity(tableOf("00/11")),
		},
	}
	for n := int64(2); n <= 10; n++ {
		cyclic, backwards := linearTable(n-1, 1, 1, 0), countedList(int(n))
		slices.Reverse(backwards)
		lawless.noInverse = append(lawless.noInverse, productsModulo(n), withZero(cyclic), withNames(withZero(cyclic), backwards),
			withIdentity(cyclic), withNames(withIdentity(cyclic), backwards))
	}
	return lawless
}

// loopOfTen is a quasigroup with an identity in which each element is its own inverse or has one on both sides, made of pairs.
func loopOfTen() [][]int64 {
	return slowProduct(linearTable(2, 1, 1, 0), tableOf("01234/10342/24013/32401/43120"))
}

func (l lawlessTables) all() [][][]int64 {
	return slices.Concat(l.brackets, l.noIdentity, l.leftIdentity, l.rightIdentity, l.noInverse)
}

func invalidGroups() []impl.Group {
	groups := []impl.Group{}
	for _, table := range append(shapelessTables(), allLawless().all()...) {
		groups = append(groups, groupOf(table))
	}
	return groups
}
