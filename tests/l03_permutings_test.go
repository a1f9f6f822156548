package tests

import (
	"math"
	"slices"
	"strings"
	"testing"

	"loop.example/g01130/impl"
)

// ordersOf returns all orders of n things, in ascending order.
func ordersOf(n int64) [][]int64 {
	if n == 0 {
		return [][]int64{{}}
	}
	orders := [][]int64{}
	for first := range n {
		for _, rest := range ordersOf(n - 1) {
			order := []int64{first}
			for _, x := range rest {
				if x >= first {
					x++
				}
				order = append(order, x)
			}
			orders = append(orders, order)
		}
	}
	return orders
}

// smallPermutings have equal orders at several places, or different ones.
func smallPermutings() []impl.Permuting {
	permutings := []impl.Permuting{
		permuting(2, 0, []int64{0, 1}), permuting(2, 1, []int64{1, 0}, []int64{1, 0}, []int64{0, 1}, []int64{1, 0}),
		permuting(3, 2, []int64{1, 2, 0}, []int64{0, 2, 1}, []int64{1, 2, 0}), permuting(4, 3, ordersOf(4)[7:12]...),
		permuting(10, 9, turned(10), countedList(10), turned(10)), permuting(36, 35, turned(36), countedList(36)),
	}
	for seed := range int64(40) {
		number := numbersFrom(seed)
		base := 2 + number(4)
		p := permuting(base, number(base))
		orders := ordersOf(base)
		for range 1 + number(5) {
			p.Orders = append(p.Orders, orders[number(int64(len(orders)))])
		}
		permutings = append(permutings, p)
	}
	return permutings
}

func TestPromise4ValidPermutings(t *testing.T) {
	for _, p := range append(smallPermutings(),
		// The limits are just reached, also with 20 different orders.
		permuting(4, 3, ordersOf(4)[:20]...), permuting(5, 0, ordersOf(5)[40:60]...), permuting(2, 1, sameOrders(20, 1, 0)...),
		permuting(6, 5, ordersOf(6)[700:719]...), permuting(10, 9, sameOrders(15, turned(10)...)...), permuting(36, 35, sameOrders(9, turned(36)...)...),
	) {
		if !impl.ValidPermuting(p) {
			t.Errorf("%v is valid", p)
		}
	}
}

func TestPromise4InvalidPermutings(t *testing.T) {
	for _, p := range invalidPermutings() {
		expect(t, say(impl.ValidPermuting(p)), `false`)
		expect(t, say(impl.PermutingChain(p)), say(impl.Chain{}, false))
		if t.Failed() {
			t.Fatalf("with the invalid permuting %v", p)
		}
	}
}

func TestPromise4ChainsHaveATableForEachDifferentOrder(t *testing.T) {
	for _, p := range append(smallPermutings(), permuting(4, 3, ordersOf(4)[:20]...), permuting(5, 0, ordersOf(5)[40:60]...), permuting(2, 1, sameOrders(20, 1, 0)...)) {
		c, ok := impl.PermutingChain(p)
		expect(t, say(c, ok), say(chainOfOrders(p), true))
		if !impl.ValidChain(c) {
			t.Errorf("the chain of %v is not valid", p)
		}
	}
	c, _ := impl.PermutingChain(permuting(3, 2, []int64{1, 2, 0}, []int64{0, 2, 1}, []int64{1, 2, 0}))
	expect(t, say(c), say(impl.Chain{
		Base: 3, States: 3, Start: 0, End: 2, Places: []int64{0, 1, 0},
		Tables: [][][]int64{{{1, 2, 0}, {2, 0, 1}, {0, 1, 2}}, {{0, 2, 1}, {1, 0, 2}, {2, 1, 0}}},
	}))
	c, _ = impl.PermutingChain(permuting(4, 0, ordersOf(4)[:20]...))
	expect(t, say(len(c.Tables), c.Places), say(20, countedList(20)))
}

func TestPromise4PermutingChainsCheckTheWordsWithTheTarget(t *testing.T) {
	for _, p := range smallPermutings() {
		c, _ := impl.PermutingChain(p)
		for _, word := range wordsOver(p.Base, len(p.Orders)) {
			sum := int64(0)
			for place, symbol := range word {
				sum += p.Orders[place][strings.IndexRune(allSymbols, symbol)]
			}
			expect(t, say(impl.IsChecked(c, word)), say(sum%p.Base == p.Target))
		}
	}
}

func TestPromise4PermutingsOfWeightings(t *testing.T) {
	made := 0
	weightings := smallWeightings()
	for base := int64(2); base <= 36; base++ {
		for weight := range base {
			weightings = append(weightings, weighting(base, base, base-1, weight, 1), weighting(base, base, 0, 1, weight))
		}
	}
	for _, w := range weightings {
		p, ok := impl.PermutingOf(w)
		want, isOne := slowPermutingOf(w)
		expect(t, say(p, ok), say(want, isOne))
		if !ok {
			continue
		}
		made++
		ofOrders, okOrders := impl.PermutingChain(p)
		ofWeights, okWeights := impl.WeightChain(w)
		expect(t, say(ofOrders, okOrders), say(ofWeights, okWeights))
	}
	if made < 500 {
		t.Errorf("just %d permutings have been made", made)
	}
}

// slowPermutingOf holds each list of remainders against the numbers that an order must have.
func slowPermutingOf(w impl.Weighting) (impl.Permuting, bool) {
	p := permuting(w.Base, w.Target)
	for _, weight := range w.Weights {
		order := []int64{}
		for d := range w.Base {
			order = append(order, weight*d%w.Base)
		}
		sorted := slices.Clone(order)
		slices.Sort(sorted)
		if w.Modulus != w.Base || !slices.Equal(sorted, countedList(int(w.Base))) {
			return impl.Permuting{}, false
		}
		p.Orders = append(p.Orders, order)
	}
	return p, true
}

func TestPromise4WeightingsWithoutPermuting(t *testing.T) {
	none := say(impl.Permuting{}, false)
	for _, w := range []impl.Weighting{
		// The modulus is not the base.
		weighting(10, 11, 0, 1, 3), weighting(11, 10, 0, 1, 3), weighting(2, 36, 0, 1), weighting(36, 2, 0, 1), weighting(5, 7, 0, 1),
		// A weight gives no order, at the first or the last place.
		weighting(10, 10, 0, 2, 1), weighting(10, 10, 0, 1, 5), weighting(10, 10, 0, 0), weighting(4, 4, 0, 2), weighting(36, 36, 0, 1, 5, 33),
		weighting(2, 2, 0, 0, 1),
	} {
		expect(t, say(impl.PermutingOf(w)), none)
	}
	p, ok := impl.PermutingOf(weighting(10, 10, 7, 3, 9, 3))
	order := []int64{0, 3, 6, 9, 2, 5, 8, 1, 4, 7}
	expect(t, say(p, ok), say(permuting(10, 7, order, []int64{0, 9, 8, 7, 6, 5, 4, 3, 2, 1}, order), true))
	p, ok = impl.PermutingOf(weighting(5, 5, 4, slices.Repeat([]int64{3}, 20)...))
	expect(t, say(p, ok), say(permuting(5, 4, sameOrders(20, 0, 3, 1, 4, 2)...), true))
}

// hybridTable leads as the document says it of KnownHybrid.
func hybridTable(last bool) [][]int64 {
	table := [][]int64{}
	for x := range int64(11) {
		row := []int64{}
		for d := range int64(10) {
			y := (x + d) % 10
			if !last {
				if y == 0 {
					y = 10
				}
				y = 2 * y % 11
			}
			row = append(row, y)
		}
		table = append(table, row)
	}
	return table
}

// knownChain makes the table of each place by how far it is from the last one.
func knownChain(kind, places int64) impl.Chain {
	tables := [][][]int64{}
	for i := places - 1; i >= 0; i-- {
		switch kind {
		case impl.KnownLuhn:
			tables = append(tables, orderTable([][]int64{countedList(10), {0, 2, 4, 6, 8, 1, 3, 5, 7, 9}}[i%2]))
		case impl.KnownTrade:
			tables = append(tables, sumTable(10, 10, []int64{1, 3}[i%2]))
		case impl.KnownBook:
			tables = append(tables, sumTable(11, 11, i+1))
		case impl.KnownPowers:
			tables = append(tables, sumTable(11, 11, (1<<i)%11))
		case impl.KnownHybrid:
			tables = append(tables, hybridTable(i == 0))
		}
	}
	switch kind {
	case impl.KnownBook:
		return chainOfTables(11, 11, 0, 0, tables...)
	case impl.KnownPowers:
		return chainOfTables(11, 11, 0, 1, tables...)
	case impl.KnownHybrid:
		return chainOfTables(10, 11, 10, 1, tables...)
	}
	return chainOfTables(10, 10, 0, 0, tables...)
}

func TestPromise4KnownChains(t *testing.T) {
	none := say(impl.Chain{}, false)
	for kind, limits := range [][2]int64{
		impl.KnownLuhn: {1, 15}, impl.KnownTrade: {1, 15}, impl.KnownBook: {10, 10}, impl.KnownPowers: {1, 14}, impl.KnownHybrid: {1, 15},
	} {
		kind := int64(kind)
		for places := int64(-2); places <= 22; places++ {
			c, ok := impl.KnownChain(kind, places)
			if places < limits[0] || places > limits[1] {
				expect(t, say(kind, places)+say(c, ok), say(kind, places)+none)
				continue
			}
			expect(t, say(kind, places)+say(c, ok), say(kind, places)+say(knownChain(kind, places), true))
			if !impl.ValidChain(c) {
				t.Errorf("the known system %d with %d places is not valid", kind, places)
			}
		}
		expectAll(t, none, say(impl.KnownChain(kind, math.MinInt64)), say(impl.KnownChain(kind, math.MaxInt64)), say(impl.KnownChain(kind, 1<<32+10)))
	}
}

func TestPromise4KnownKindsThatAreNone(t *testing.T) {
	for _, kind := range []int64{math.MinInt64, -1, 5, 6, 1 << 32, math.MaxInt64} {
		for _, places := range []int64{-1, 0, 1, 5, 10, 15, 16} {
			expect(t, say(impl.KnownChain(kind, places)), say(impl.Chain{}, false))
		}
	}
}

func TestPromise4KnownTablesComeInTheOrderOfPlaces(t *testing.T) {
	even, _ := impl.KnownChain(impl.KnownLuhn, 4)
	expect(t, say(even.Places, even.Tables[0][0], even.Tables[1][0]), `[0 1 0 1] [0 2 4 6 8 1 3 5 7 9] [0 1 2 3 4 5 6 7 8 9]`)
	odd, _ := impl.KnownChain(impl.KnownLuhn, 3)
	expect(t, say(odd.Places, odd.Tables[0][0], odd.Tables[1][0]), `[0 1 0] [0 1 2 3 4 5 6 7 8 9] [0 2 4 6 8 1 3 5 7 9]`)
	powers, _ := impl.KnownChain(impl.KnownPowers, 14)
	expect(t, say(len(powers.Tables), powers.Places), `10 [0 1 2 3 4 5 6 7 8 9 0 1 2 3]`)
	expect(t, say(powers.Tables[0][0][1], powers.Tables[9][0][1]), say((1<<13)%11, 16%11))
	one, _ := impl.KnownChain(impl.KnownHybrid, 1)
	expect(t, say(one.Places, len(one.Tables), one.Start, one.End, one.States), `[0] 1 10 1 11`)
	two, _ := impl.KnownChain(impl.KnownHybrid, 3)
	expect(t, say(two.Places, two.Tables[0][10], two.Tables[1][10]), `[0 0 1] [9 2 4 6 8 10 1 3 5 7] [0 1 2 3 4 5 6 7 8 9]`)
}

func TestPromise4KnownNumbers(t *testing.T) {
	for _, c := range []struct {
		kind int64
		word string
	}{
		{impl.KnownLuhn, "0"}, {impl.KnownLuhn, "18"}, {impl.KnownLuhn, "79927398713"}, {impl.KnownLuhn, "378282246310005"},
		{impl.KnownTrade, "0"}, {impl.KnownTrade, "40170725"}, {impl.KnownTrade, "4006381333931"}, {impl.KnownTrade, "036000291452"},
		{impl.KnownBook, "0306406152"}, {impl.KnownBook, "080442957A"}, {impl.KnownPowers, "1"}, {impl.KnownPowers, "07940"}, {impl.KnownPowers, "1A"},
		{impl.KnownHybrid, "1"}, {impl.KnownHybrid, "19"}, {impl.KnownHybrid, "07945"}, {impl.KnownHybrid, "86095742719"}, {impl.KnownHybrid, "65929970489"},
	} {
		known, ok := impl.KnownChain(c.kind, int64(len(c.word)))
		expect(t, say(c.word, ok, impl.IsChecked(known, c.word)), say(c.word, true, true))
		symbols, _ := impl.CheckSymbols(known, c.word, int64(len(c.word)-1))
		expect(t, symbols, c.word[len(c.word)-1:])
	}
}

// What is told of the known systems elsewhere: which errors they catch, and the first ones that they do not.
func TestPromise4ErrorsOfKnownSystems(t *testing.T) {
	luhn, _ := impl.KnownChain(impl.KnownLuhn, 3)
	expect(t, say(impl.IsCaught(luhn, impl.ErrSingle)), `true`)
	expect(t, say(impl.UndetectedAt(luhn, impl.ErrSwap, 0)), `2 90 true`)
	expect(t, say(impl.FirstUndetected(luhn, impl.ErrSwap)), `"091" "901" true`)
	expect(t, say(impl.UndetectedAt(luhn, impl.ErrTwin, 0)), `6 90 true`)
	book, _ := impl.ReadWeighting("11/11/0/10 9 8 7 6 5 4 3 2 1")
	caught := []bool{}
	for kind := range int64(6) {
		caught = append(caught, impl.WeightCatches(book, kind))
	}
	expect(t, say(caught), `[true true true false true false]`)
	known, _ := impl.KnownChain(impl.KnownBook, 10)
	expect(t, say(impl.WeightChain(book)), say(known, true))
	expect(t, say(impl.UnseenPairs(book, impl.ErrTwin, 4)), `110 true`)
	expect(t, say(impl.UndetectedIn(known, impl.ErrTwin)), say(11*11*11*11*11*11*11*110, 9*11*11*11*11*11*11*11*110, true))
	hybrid, _ := impl.KnownChain(impl.KnownHybrid, 3)
	expect(t, say(impl.UndetectedIn(hybrid, impl.ErrSingle)), `0 2700 true`)
	expect(t, say(impl.UndetectedIn(hybrid, impl.ErrSwap)), `4 180 true`)
	expect(t, say(impl.FirstUndetected(hybrid, impl.ErrSwap)), `"560" "650" true`)
	powers, _ := impl.KnownChain(impl.KnownPowers, 14)
	expectAll(t, `true`, say(impl.IsCaught(powers, impl.ErrSingle)), say(impl.IsCaught(powers, impl.ErrSwap)), say(impl.IsCaught(powers, impl.ErrJump)))
}
