package tests

import (
	"math"
	"slices"
	"testing"

	"loop.example/g01130/impl"
)

var noChain = say(impl.Chain{}, false)

// All orders of at most seven elements are tried, and some of more.
func TestPromise6OrdersAreMappingsAsTheirProductsTell(t *testing.T) {
	for i, g := range renamedGroups() {
		group := groupOf(g.table)
		hold := func(order []int64) {
			if impl.IsComplete(group, order) != slowIsComplete(g.table, order) {
				t.Errorf("in %v, %v is complete: %v", g.table, order, slowIsComplete(g.table, order))
			}
			if impl.IsAntisymmetric(group, order) != slowIsAntisymmetric(g.table, order) {
				t.Errorf("in %v, %v is antisymmetric: %v", g.table, order, slowIsAntisymmetric(g.table, order))
			}
		}
		if len(g.table) <= 7 {
			for _, order := range ordersOf(int64(len(g.table))) {
				hold(order)
			}
		}
		number := numbersFrom(int64(i))
		for range 200 {
			hold(shuffled(number, len(g.table)))
		}
	}
}

// Of some orders that are mappings, those with two elements in each other's place often are none.
func TestPromise6OrdersNearMappings(t *testing.T) {
	is := map[bool]int{}
	for _, g := range renamedGroups() {
		group := groupOf(g.table)
		for _, order := range [][]int64{firstMapping(g.table, slowIsComplete), firstMapping(g.table, slowIsAntisymmetric)} {
			for y := range order {
				for x := range y + 1 {
					near := slices.Clone(order)
					near[x], near[y] = near[y], near[x]
					complete, antisymmetric := slowIsComplete(g.table, near), slowIsAntisymmetric(g.table, near)
					is[complete]++
					is[antisymmetric]++
					expect(t, say(near, impl.IsComplete(group, near), impl.IsAntisymmetric(group, near)), say(near, complete, antisymmetric))
				}
			}
		}
	}
	if is[true] < 500 || is[false] < 500 {
		t.Errorf("just %d mappings and %d other orders have been tried", is[true], is[false])
	}
}

func TestPromise6WhatIsNoOrder(t *testing.T) {
	for _, g := range renamedGroups() {
		group, size := groupOf(g.table), len(g.table)
		same := countedList(size)
		tried := [][]int64{nil, {}, countedList(size + 1), countedList(size - 1), turned(size + 1), make([]int64, 1000), countedList(36), countedList(37)}
		if size > 1 {
			tried = append(tried, make([]int64, size), slices.Repeat([]int64{int64(size) - 1}, size), append(countedList(size-1), 0))
		}
		for place := range same {
			for _, n := range notElements(size) {
				wrong := slices.Clone(same)
				wrong[place] = n
				tried = append(tried, wrong)
			}
		}
		for _, order := range tried {
			if impl.IsComplete(group, order) || impl.IsAntisymmetric(group, order) {
				t.Errorf("in %v, %v is taken for an order", g.table, order)
			}
		}
	}
	// The products of this list and of this order are all different, but one is of another size.
	three := groupOfText("012/120/201")
	expect(t, say(impl.IsComplete(three, []int64{0, 1}), impl.IsComplete(three, []int64{0, 1, 2}), impl.IsComplete(three, []int64{0, 1, 2, 3})), `false true false`)
	expect(t, say(impl.IsAntisymmetric(three, []int64{0, 2}), impl.IsAntisymmetric(three, []int64{0, 2, 1})), `false true`)
	// All pairs are told from one another, but the list has an element twice.
	expect(t, say(impl.IsAntisymmetric(three, []int64{0, 0, 0}), slowIsAntisymmetric(three.Table, []int64{0, 0, 0})), `false true`)
	expect(t, say(impl.IsComplete(three, []int64{1, 1, 1}), slowIsComplete(three.Table, []int64{1, 1, 1})), `false true`)
}

// The squares of all elements are different in groups with an odd number of elements, and the identity commutes with all others.
func TestPromise6IdentityOrders(t *testing.T) {
	for _, g := range renamedGroups() {
		group, same := groupOf(g.table), countedList(len(g.table))
		expect(t, say(g.name, impl.IsComplete(group, same)), say(g.name, len(g.table)%2 == 1))
		expect(t, say(g.name, impl.IsAntisymmetric(group, same)), say(g.name, len(g.table) == 1))
	}
}

func TestPromise6LeastMappingsAreTheFirstOfAllOrders(t *testing.T) {
	for _, g := range renamedGroups() {
		t.Run(g.name, func(t *testing.T) {
			t.Parallel()
			group := groupOf(g.table)
			complete := firstMapping(g.table, slowIsComplete)
			expect(t, say(impl.LeastComplete(group)), say(complete, complete != nil))
			antisymmetric := firstMapping(g.table, slowIsAntisymmetric)
			expect(t, say(impl.LeastAntisymmetric(group)), say(antisymmetric, antisymmetric != nil))
			expect(t, say(complete != nil, antisymmetric != nil), say(g.complete, g.antisymmetry))
		})
	}
}

func TestPromise6CommutativeGroupsHaveBothMappingsOrNone(t *testing.T) {
	both, none := 0, 0
	for _, g := range renamedGroups() {
		group := groupOf(g.table)
		complete, hasComplete := impl.LeastComplete(group)
		antisymmetric, hasAntisymmetric := impl.LeastAntisymmetric(group)
		expect(t, say(g.name, hasComplete, hasAntisymmetric), say(g.name, g.complete, g.antisymmetry))
		expect(t, say(g.name, impl.IsComplete(group, complete), impl.IsAntisymmetric(group, antisymmetric)), say(g.name, g.complete, g.antisymmetry))
		if !impl.IsCommutative(group) {
			continue
		}
		if hasComplete != hasAntisymmetric {
			t.Errorf("%v has one of the mappings alone", g.table)
		}
		if hasComplete {
			both++
		} else {
			none++
		}
	}
	if both < 20 || none < 10 {
		t.Errorf("just %d commutative groups have both mappings, and %d have none", both, none)
	}
}

// With the products of x and order[x], an order is complete exactly if the order of these products is antisymmetric.
func TestPromise6MappingsOfCommutativeGroupsMakeOneAnother(t *testing.T) {
	made := 0
	for _, g := range renamedGroups() {
		if !g.commutative || len(g.table) > 7 {
			continue
		}
		for _, order := range ordersOf(int64(len(g.table))) {
			products := []int64{}
			for x, to := range order {
				products = append(products, g.table[x][to])
			}
			is := impl.IsComplete(groupOf(g.table), order)
			if is {
				made++
			}
			if impl.IsAntisymmetric(groupOf(g.table), products) != is {
				t.Errorf("in %v, %v makes %v", g.table, order, products)
			}
		}
	}
	if made < 500 {
		t.Errorf("just %d orders are complete", made)
	}
}

func TestPromise6LeastMappings(t *testing.T) {
	for _, c := range []struct{ text, complete, antisymmetric string }{
		{"0", `[0] true`, `[0] true`}, {"01/10", noList, noList}, {"10/01", noList, noList},
		{"012/120/201", `[0 1 2] true`, `[0 2 1] true`}, {"201/012/120", `[0 1 2] true`, `[0 2 1] true`},
		{"0123/1230/2301/3012", noList, noList}, {"0123/1032/2301/3210", `[0 2 3 1] true`, `[0 2 3 1] true`},
		{"01234/12340/23401/34012/40123", `[0 1 2 3 4] true`, `[0 2 4 1 3] true`},
		{"012345/120453/201534/354021/435102/543210", noList, `[0 2 1 4 5 3] true`},
	} {
		expect(t, c.text+" "+say(impl.LeastComplete(groupOfText(c.text))), c.text+" "+c.complete)
		expect(t, c.text+" "+say(impl.LeastAntisymmetric(groupOfText(c.text))), c.text+" "+c.antisymmetric)
	}
}

// chainOfGroup leads with each digit to the product of what the map of the place takes it to, and the state.
func chainOfGroup(table [][]int64, maps [][]int64, end int64) impl.Chain {
	size := int64(len(table))
	c := impl.Chain{Base: size, States: size, Start: slowIdentity(table), End: end}
	for place, order := range maps {
		steps := linearTable(size, 0, 0, 0)
		for x := range size {
			for d := range size {
				steps[x][d] = table[order[d]][x]
			}
		}
		c.Tables = append(c.Tables, steps)
		c.Places = append(c.Places, int64(place))
	}
	return c
}

func someMaps(seed int64, size, places int) [][]int64 {
	number := numbersFrom(seed)
	maps := [][]int64{}
	for range places {
		maps = append(maps, shuffled(number, size))
	}
	return maps
}

// mostPlaces is the greatest number of places at which words over a base are not too many.
func mostPlaces(base int) int {
	return []int{2: 20, 3: 20, 4: 20, 5: 20, 6: 19, 7: 17, 8: 16, 9: 15, 10: 15}[base]
}

func TestPromise6ChainsOfGroups(t *testing.T) {
	for i, g := range renamedGroups() {
		size := len(g.table)
		if size == 1 {
			continue
		}
		for _, places := range []int{1, 2, 3, mostPlaces(size)} {
			maps := someMaps(int64(100*i+places), size, places)
			for end := range int64(size) {
				c, ok := impl.GroupChain(groupOf(g.table), maps, end)
				expect(t, say(c, ok), say(chainOfGroup(g.table, maps, end), true))
				if !impl.ValidChain(c) {
					t.Errorf("the chain of %v with %v is not valid", g.table, maps)
				}
			}
		}
	}
	// Equal maps have a table each.
	c, ok := impl.GroupChain(groupOfText("10/01"), [][]int64{{1, 0}, {1, 0}, {0, 1}}, 0)
	expect(t, say(c, ok), `{2 2 1 0 [[[0 1] [1 0]] [[0 1] [1 0]] [[1 0] [0 1]]] [0 1 2]} true`)
}

func TestPromise6PlacesOfGroupChains(t *testing.T) {
	for _, g := range renamedGroups() {
		size := len(g.table)
		for places := range 23 {
			for _, maps := range [][][]int64{slices.Repeat([][]int64{countedList(size)}, places), someMaps(int64(places), size, places)} {
				c, ok := impl.GroupChain(groupOf(g.table), maps, 0)
				is := size > 1 && places >= 1 && places <= mostPlaces(size)
				expect(t, say(g.name, places, len(c.Places), ok), say(g.name, places, map[bool]int{true: places}[is], is))
			}
		}
		expectAll(t, noChain, say(impl.GroupChain(groupOf(g.table), nil, 0)), say(impl.GroupChain(groupOf(g.table), [][]int64{}, 0)),
			say(impl.GroupChain(groupOf(g.table), slices.Repeat([][]int64{countedList(size)}, 1000), 0)), say(impl.GroupChain(groupOf(g.table), make([][]int64, 1000), 0)))
	}
	for _, maps := range [][][]int64{nil, {{}}, {{0}}, {{0}, {0}}, {{0, 1}}, slices.Repeat([][]int64{{0}}, 20), slices.Repeat([][]int64{{0}}, 21)} {
		expect(t, say(impl.GroupChain(groupOfText("0"), maps, 0)), noChain)
	}
}

func TestPromise6EndsAndMapsThatAreNone(t *testing.T) {
	for i, g := range renamedGroups() {
		group, size := groupOf(g.table), len(g.table)
		if size == 1 {
			continue
		}
		good := someMaps(int64(i), size, 4)
		for _, end := range notElements(size) {
			expect(t, say(impl.GroupChain(group, good, end)), noChain)
			expect(t, say(impl.GroupChain(group, good[:1], end)), noChain)
		}
		bad := [][]int64{
			nil, {}, {0}, countedList(size - 1), countedList(size + 1), turned(size + 1), make([]int64, size), slices.Repeat([]int64{int64(size) - 1}, size),
			append(countedList(size-1), 0), append(countedList(size-1), int64(size)), append(countedList(size-1), -1), make([]int64, 1000), turned(36), turned(37),
			append([]int64{math.MinInt64}, countedList(size)[1:]...), append([]int64{math.MaxInt64}, countedList(size)[1:]...),
		}
		for _, wrong := range bad {
			for place := range good {
				maps := slices.Clone(good)
				maps[place] = wrong
				expect(t, say(impl.GroupChain(group, maps, 0)), noChain)
			}
			expect(t, say(impl.GroupChain(group, [][]int64{wrong}, 0)), noChain)
		}
		if t.Failed() {
			t.Fatalf("with the group %v", g.table)
		}
	}
}

// All words are gone through from the left, with the products of the group.
func TestPromise6GroupChainsCheckTheWordsWithTheProductEnd(t *testing.T) {
	for i, g := range renamedGroups() {
		size := len(g.table)
		if size == 1 || size > 6 {
			continue
		}
		maps, end := someMaps(int64(i), size, 3), int64(i%size)
		c, _ := impl.GroupChain(groupOf(g.table), maps, end)
		checked := 0
		for _, word := range wordsOver(int64(size), 3) {
			product := maps[0][word[0]-'0']
			product = g.table[maps[1][word[1]-'0']][product]
			product = g.table[maps[2][word[2]-'0']][product]
			if product == end {
				checked++
			}
			expect(t, say(word, impl.IsChecked(c, word)), say(word, product == end))
		}
		expect(t, say(checked), say(size*size))
		expect(t, say(impl.CountWords(c)), say(size*size, true))
	}
}

// mapsOf has the map 0, 1, 2 and so on at the last place, and in front of each map what an order and then this map do.
func mapsOf(order []int64, places int) [][]int64 {
	maps := [][]int64{countedList(len(order))}
	for len(maps) < places {
		front := []int64{}
		for _, to := range order {
			front = append(front, maps[0][to])
		}
		maps = slices.Insert(maps, 0, front)
	}
	return maps
}

// The symbol in front leads to each element once, and just one of these goes on to the end.
// Each pair that an order does not tell from the opposite one is undetected in both directions.
func TestPromise6UndetectedSwapsAreThoseThatAnOrderDoesNotTell(t *testing.T) {
	caught, missed := 0, 0
	for i, g := range renamedGroups() {
		size := len(g.table)
		orders := someMaps(int64(i), size, 20)
		if size <= 5 {
			orders = ordersOf(int64(size))
		}
		for _, order := range orders {
			if size == 1 {
				continue
			}
			c, _ := impl.GroupChain(groupOf(g.table), mapsOf(order, 3), int64(i%size))
			swaps := slowSwaps(g.table, order)
			expect(t, say(impl.UndetectedAt(c, impl.ErrSwap, 1)), say(2*swaps, size*(size-1), true))
			expect(t, say(impl.UndetectedAt(c, impl.ErrSwap, 0)), say(2*swaps, size*(size-1), true))
			expect(t, say(impl.IsCaught(c, impl.ErrSwap)), say(impl.IsAntisymmetric(groupOf(g.table), order)))
			expect(t, say(impl.IsCaught(c, impl.ErrSingle)), `true`)
			if swaps == 0 {
				caught++
			} else {
				missed++
			}
			if t.Failed() {
				t.Fatalf("with the group %v and the order %v", g.table, order)
			}
		}
	}
	if caught < 50 || missed < 500 {
		t.Errorf("just %d antisymmetric orders and %d others have been tried", caught, missed)
	}
}

// All words and all errors are gone through one by one.
func TestPromise6UndetectedErrorsOfAllWords(t *testing.T) {
	for i, g := range renamedGroups() {
		size := len(g.table)
		if size == 1 || size > 5 {
			continue
		}
		orders := someMaps(int64(i), size, 3)
		if least, ok := impl.LeastAntisymmetric(groupOf(g.table)); ok {
			orders = append(orders, least)
		}
		for _, order := range orders {
			for places := 1; places <= 4; places++ {
				c, _ := impl.GroupChain(groupOf(g.table), mapsOf(order, places), int64(size-1))
				for _, kind := range []int64{impl.ErrSingle, impl.ErrSwap} {
					report := reportOf(c, kind)
					expect(t, say(impl.UndetectedIn(c, kind)), say(report.undetected, report.all, true))
					// At two places alone, a swap that the order does not tell may lead to another end.
					is := kind == impl.ErrSingle || slowIsAntisymmetric(g.table, order)
					if is && report.undetected > 0 || !is && places > 2 && report.undetected == 0 {
						t.Errorf("with %d places, %d errors of the kind %d are undetected", places, report.undetected, kind)
					}
				}
			}
			if t.Failed() {
				t.Fatalf("with the group %v and the order %v", g.table, order)
			}
		}
	}
}

func TestPromise6AntisymmetricOrdersMakeChainsThatCatchSwaps(t *testing.T) {
	for i, g := range renamedGroups() {
		size := len(g.table)
		if size == 1 || !g.antisymmetry {
			continue
		}
		least, _ := impl.LeastAntisymmetric(groupOf(g.table))
		for places := 1; places <= mostPlaces(size); places++ {
			c, ok := impl.GroupChain(groupOf(g.table), mapsOf(least, places), int64((i+places)%size))
			expect(t, say(g.name, places, ok, impl.IsCaught(c, impl.ErrSingle), impl.IsCaught(c, impl.ErrSwap)), say(g.name, places, true, true, true))
		}
	}
}

var dihedralOrder = []int64{1, 5, 7, 6, 2, 8, 3, 0, 9, 4}

func TestPromise6DihedralChains(t *testing.T) {
	table := dihedralTable(5)
	expect(t, say(slowIsAntisymmetric(table, dihedralOrder), impl.IsAntisymmetric(groupOf(table), dihedralOrder)), `true true`)
	for places := int64(-3); places <= 22; places++ {
		c, ok := impl.DihedralChain(places)
		if places < 1 || places > 15 {
			expect(t, say(places)+" "+say(c, ok), say(places)+" "+noChain)
			continue
		}
		maps := mapsOf(dihedralOrder, int(places))
		expect(t, say(c, ok), say(chainOfGroup(table, maps, 0), true))
		expect(t, say(impl.GroupChain(groupOf(table), maps, 0)), say(c, true))
		expect(t, say(impl.ValidChain(c), impl.IsCaught(c, impl.ErrSingle), impl.IsCaught(c, impl.ErrSwap)), `true true true`)
	}
	for _, places := range []int64{math.MinInt64, -1 << 32, 1 << 32, 1<<32 + 1, 1 << 62, math.MaxInt64} {
		expect(t, say(impl.DihedralChain(places)), noChain)
	}
}

// Numbers that are told elsewhere as examples of this system; just their last symbols make them checked.
func TestPromise6DihedralNumbers(t *testing.T) {
	for _, word := range []string{"0", "2363", "123451", "1428570"} {
		c, _ := impl.DihedralChain(int64(len(word)))
		expect(t, say(word, impl.IsChecked(c, word)), say(word, true))
		expect(t, say(impl.CheckSymbols(c, word, int64(len(word)-1))), say(word[len(word)-1:], true))
	}
	four, _ := impl.DihedralChain(4)
	expect(t, say(impl.CountWords(four)), `1000 true`)
	expect(t, say(impl.UndetectedIn(four, impl.ErrSwap)), `0 2700 true`)
	for _, word := range []string{"2364", "2336", "2633", "3263", "0363"} {
		expect(t, say(word, impl.IsChecked(four, word)), say(word, false))
	}
}

func TestPromise6MadeChainsHaveMemoryOfTheirOwn(t *testing.T) {
	g, maps := groupOfText("012/120/201"), [][]int64{{0, 2, 1}, {0, 1, 2}}
	c, _ := impl.GroupChain(g, maps, 1)
	first, _ := impl.DihedralChain(2)
	least, _ := impl.LeastAntisymmetric(g)
	want := say(c, first, least)
	g.Table[0][0], maps[0][0], maps[1] = 7, 8, nil
	other, _ := impl.DihedralChain(2)
	other.Tables[0][0][0], other.Tables[1], other.Places[0] = 9, nil, 9
	expect(t, say(c, first, least), want)
	c.Tables[0][0][0], least[0] = 5, 6
	expect(t, say(g, maps), `{[[7 1 2] [1 2 0] [2 0 1]]} [[8 2 1] []]`)
}
