package tests

import (
	"math"
	"slices"
	"strings"

	"loop.example/g01130/impl"
)

func weighting(base, modulus, target int64, weights ...int64) impl.Weighting {
	return impl.Weighting{Base: base, Modulus: modulus, Target: target, Weights: weights}
}

func permuting(base, target int64, orders ...[]int64) impl.Permuting {
	return impl.Permuting{Base: base, Target: target, Orders: orders}
}

func randomWeighting(seed, base, modulus, places int64) impl.Weighting {
	number := numbersFrom(seed)
	w := weighting(base, modulus, number(modulus))
	for range places {
		w.Weights = append(w.Weights, number(modulus))
	}
	return w
}

// smallWeightings are those whose words and errors are gone through one by one.
func smallWeightings() []impl.Weighting {
	weightings := []impl.Weighting{
		weighting(2, 2, 0, 1), weighting(2, 2, 1, 0), weighting(2, 2, 1, 1, 0, 1, 1, 0), weighting(3, 2, 1, 1), weighting(3, 2, 1, 0, 1),
		weighting(10, 2, 0, 0, 1, 0), weighting(36, 2, 1, 1, 0), weighting(2, 36, 35, 35, 18, 0, 12, 6), weighting(36, 36, 0, 6, 30),
		weighting(36, 36, 7, 35), weighting(36, 35, 34, 7, 34), weighting(10, 36, 35, 18, 9, 27), weighting(12, 36, 5, 3, 33),
		weighting(10, 10, 0, 3, 1), weighting(10, 10, 0, 3, 1, 3), weighting(10, 10, 5, 0, 5, 2), weighting(10, 10, 3, 4, 6, 9),
		weighting(10, 11, 0, 3, 2, 1), weighting(11, 11, 0, 2, 1), weighting(11, 11, 10, 6, 5, 6), weighting(12, 11, 1, 2, 4),
		weighting(10, 9, 0, 2, 1), weighting(10, 7, 0, 2, 1, 5), weighting(9, 9, 0, 3, 6, 1), weighting(9, 18, 0, 9, 9, 3),
		// No word has the target, or some sums of the others are those of no word.
		weighting(2, 36, 35, 1, 1, 1), weighting(10, 10, 1, 2, 4, 8), weighting(3, 4, 2, 1, 1), weighting(3, 4, 1, 1, 1),
		weighting(2, 3, 1, 1, 1), weighting(2, 4, 2, 2, 2), weighting(2, 4, 1, 2, 1), weighting(2, 30, 15, 15, 5, 10, 6),
		weighting(3, 9, 0, 1, 3), weighting(3, 9, 8, 1, 3, 0), weighting(4, 16, 5, 4, 1), weighting(2, 12, 6, 6, 6, 4, 4),
		weighting(3, 5, 0, 0, 0, 0), weighting(3, 5, 1, 0, 0, 0),
	}
	for seed := range int64(60) {
		number := numbersFrom(seed)
		weightings = append(weightings, randomWeighting(seed, 2+number(4), 2+number(11), 1+number(5)))
	}
	for seed := range int64(20) {
		number := numbersFrom(seed)
		weightings = append(weightings, randomWeighting(100+seed, 10+number(3), 2+number(35), 2))
	}
	return weightings
}

// changedWeighting returns a valid weighting in which one thing has been changed.
func changedWeighting(change func(w *impl.Weighting)) impl.Weighting {
	w := weighting(10, 11, 3, 5, 0, 10)
	change(&w)
	return w
}

func invalidWeightings() []impl.Weighting {
	weightings := []impl.Weighting{
		{},
		changedWeighting(func(w *impl.Weighting) { w.Base = 1 }),
		changedWeighting(func(w *impl.Weighting) { w.Base = 37 }),
		changedWeighting(func(w *impl.Weighting) { w.Modulus = 1 }),
		changedWeighting(func(w *impl.Weighting) { w.Modulus = 10 }),
		changedWeighting(func(w *impl.Weighting) { w.Modulus = 37 }),
		changedWeighting(func(w *impl.Weighting) { w.Target = 11 }),
		changedWeighting(func(w *impl.Weighting) { w.Weights[0] = 11 }),
		changedWeighting(func(w *impl.Weighting) { w.Weights[2] = 11 }),
		changedWeighting(func(w *impl.Weighting) { w.Weights = nil }),
		changedWeighting(func(w *impl.Weighting) { w.Weights = []int64{} }),
		changedWeighting(func(w *impl.Weighting) { w.Weights = make([]int64, 16) }),
		weighting(1, 1, 0, 0), weighting(1, 2, 0, 1), weighting(2, 1, 0, 0), weighting(2, 37, 36, 36), weighting(37, 37, 36, 36),
		weighting(3, 3, 3, 1), weighting(3, 3, 0, 3), weighting(3, 3, 0, 4), weighting(10, 10, 0, 13, 1), weighting(10, 10, 0, 3, -9),
		weighting(2, 2, 0, make([]int64, 21)...), weighting(6, 2, 0, make([]int64, 20)...), weighting(32, 2, 0, make([]int64, 10)...),
		weighting(36, 36, 0, make([]int64, 10)...), weighting(11, 11, 0, make([]int64, 15)...), weighting(2, 2, 0, make([]int64, 1000)...),
	}
	for _, n := range []int64{math.MinInt64, -1, 1000, math.MaxInt64} {
		weightings = append(weightings,
			changedWeighting(func(w *impl.Weighting) { w.Base = n }),
			changedWeighting(func(w *impl.Weighting) { w.Modulus = n }),
			changedWeighting(func(w *impl.Weighting) { w.Target = n }),
			changedWeighting(func(w *impl.Weighting) { w.Weights[0] = n }),
			changedWeighting(func(w *impl.Weighting) { w.Weights[2] = n }))
	}
	return weightings
}

// changedPermuting returns a valid permuting in which one thing has been changed.
func changedPermuting(change func(p *impl.Permuting)) impl.Permuting {
	p := permuting(3, 2, []int64{1, 2, 0}, []int64{0, 2, 1}, []int64{1, 2, 0})
	change(&p)
	return p
}

func sameOrders(places int, order ...int64) [][]int64 {
	orders := [][]int64{}
	for range places {
		orders = append(orders, slices.Clone(order))
	}
	return orders
}

func invalidPermutings() []impl.Permuting {
	permutings := []impl.Permuting{
		{},
		changedPermuting(func(p *impl.Permuting) { p.Base = 2 }),
		changedPermuting(func(p *impl.Permuting) { p.Base = 4 }),
		changedPermuting(func(p *impl.Permuting) { p.Target = 3 }),
		changedPermuting(func(p *impl.Permuting) { p.Orders = nil }),
		changedPermuting(func(p *impl.Permuting) { p.Orders[0] = nil }),
		changedPermuting(func(p *impl.Permuting) { p.Orders[0] = []int64{0, 1} }),
		changedPermuting(func(p *impl.Permuting) { p.Orders[0] = []int64{0, 1, 2, 3} }),
		changedPermuting(func(p *impl.Permuting) { p.Orders[0] = []int64{0, 1, 3} }),
		changedPermuting(func(p *impl.Permuting) { p.Orders[2] = []int64{0, 0, 1} }),
		changedPermuting(func(p *impl.Permuting) { p.Orders[2] = []int64{1, 2, 3} }),
		changedPermuting(func(p *impl.Permuting) { p.Orders[2] = []int64{-1, 0, 1} }),
		changedPermuting(func(p *impl.Permuting) { p.Orders[2] = []int64{1, 0} }),
		permuting(1, 0, []int64{0}), permuting(37, 0, countedList(37)), permuting(2, 0, sameOrders(21, 1, 0)...),
		permuting(6, 0, sameOrders(20, turned(6)...)...), permuting(10, 0, sameOrders(16, turned(10)...)...),
		permuting(36, 0, sameOrders(10, turned(36)...)...), permuting(2, 0, make([][]int64, 1000)...),
	}
	for _, n := range []int64{math.MinInt64, -1, 36, math.MaxInt64} {
		permutings = append(permutings,
			changedPermuting(func(p *impl.Permuting) { p.Base = n }),
			changedPermuting(func(p *impl.Permuting) { p.Target = n }),
			changedPermuting(func(p *impl.Permuting) { p.Orders[1][1] = n }))
	}
	return permutings
}

// sumOf goes through a word as the document says it, symbol by symbol.
func sumOf(w impl.Weighting, word string) int64 {
	sum := int64(0)
	for place, symbol := range word {
		sum += w.Weights[place] * int64(strings.IndexRune(allSymbols, symbol))
	}
	return sum % w.Modulus
}

// chainOfTables has each of some tables once, in the order in which they come first.
func chainOfTables(base, states, start, end int64, tables ...[][]int64) impl.Chain {
	c := impl.Chain{Base: base, States: states, Start: start, End: end}
	for _, table := range tables {
		index := slices.IndexFunc(c.Tables, func(known [][]int64) bool { return say(known) == say(table) })
		if index < 0 {
			index = len(c.Tables)
			c.Tables = append(c.Tables, table)
		}
		c.Places = append(c.Places, int64(index))
	}
	return c
}

func chainOfWeights(w impl.Weighting) impl.Chain {
	tables := [][][]int64{}
	for _, weight := range w.Weights {
		tables = append(tables, sumTable(w.Modulus, w.Base, weight))
	}
	return chainOfTables(w.Base, w.Modulus, 0, w.Target, tables...)
}

// orderTable leads from x with the digit d to the remainder of x plus what an order takes d to.
func orderTable(order []int64) [][]int64 {
	base := int64(len(order))
	table := [][]int64{}
	for x := range base {
		row := []int64{}
		for _, y := range order {
			row = append(row, (x+y)%base)
		}
		table = append(table, row)
	}
	return table
}

func chainOfOrders(p impl.Permuting) impl.Chain {
	tables := [][][]int64{}
	for _, order := range p.Orders {
		tables = append(tables, orderTable(order))
	}
	return chainOfTables(p.Base, p.Base, 0, p.Target, tables...)
}

// pairOf names the pair of symbols of an error: a and b where the kind goes from a to b, and both symbols for ErrPhonetic.
func pairOf(kind int64, from, to string) string {
	if kind == impl.ErrPhonetic {
		return from
	}
	return from[:1] + to[:1]
}

// seenPairs tells of each pair of a kind whether an error of it changes the sum of a word, from all words and all errors one by one.
func seenPairs(w impl.Weighting, kind int64, place int) map[string]bool {
	size := sizesOfKinds[kind]
	parts := wordsOver(w.Base, size)
	seen := map[string]bool{}
	for _, word := range wordsOver(w.Base, len(w.Weights)) {
		from := word[place : place+size]
		for _, to := range parts {
			if !isError(kind, from, to) {
				continue
			}
			wrong := word[:place] + to + word[place+size:]
			pair := pairOf(kind, from, to)
			seen[pair] = seen[pair] || sumOf(w, wrong) != sumOf(w, word)
		}
	}
	return seen
}

func countUnseen(seen map[string]bool) int64 {
	unseen := int64(0)
	for _, one := range seen {
		if !one {
			unseen++
		}
	}
	return unseen
}

// isCheckPlace goes through all words with 0 at a place and all symbols there.
func isCheckPlace(w impl.Weighting, place int) bool {
	for _, word := range wordsOver(w.Base, len(w.Weights)) {
		if word[place] != '0' {
			continue
		}
		fits := 0
		for d := range w.Base {
			if sumOf(w, word[:place]+allSymbols[d:d+1]+word[place+1:]) == w.Target {
				fits++
			}
		}
		if fits != 1 {
			return false
		}
	}
	return true
}
