package tests

import (
	"math"
	"slices"
	"strings"

	"loop.example/g01130/impl"
)

// sumTable leads from x with the digit d to the remainder of x plus weight times d.
func sumTable(states, base, weight int64) [][]int64 {
	table := [][]int64{}
	for x := range states {
		row := []int64{}
		for d := range base {
			row = append(row, (x+weight*d)%states)
		}
		table = append(table, row)
	}
	return table
}

// parity checks the words with an even number of symbols 1.
func parity(places int64) impl.Chain {
	return impl.Chain{Base: 2, States: 2, Tables: [][][]int64{sumTable(2, 2, 1)}, Places: make([]int64, places)}
}

// sumChain checks the words with a sum of digits that base divides.
func sumChain(base, places int64) impl.Chain {
	return impl.Chain{Base: base, States: base, Tables: [][][]int64{sumTable(base, base, 1)}, Places: make([]int64, places)}
}

// remainders checks the words for which the sum of the digits, each times the weight of its place, is divided by states.
func remainders(base, states int64, weights ...int64) impl.Chain {
	c := impl.Chain{Base: base, States: states}
	for i, weight := range weights {
		c.Tables = append(c.Tables, sumTable(states, base, weight))
		c.Places = append(c.Places, int64(i))
	}
	return c
}

// oneState checks all words.
func oneState(base, places int64) impl.Chain {
	return impl.Chain{Base: base, States: 1, Tables: [][][]int64{sumTable(1, base, 0)}, Places: make([]int64, places)}
}

// noWords never leaves its start.
func noWords() impl.Chain {
	return impl.Chain{Base: 2, States: 2, End: 1, Tables: [][][]int64{{{0, 0}, {1, 1}}}, Places: []int64{0, 0, 0}}
}

// oneWord checks 1111 alone.
func oneWord() impl.Chain {
	return impl.Chain{Base: 2, States: 2, Tables: [][][]int64{{{1, 0}, {1, 1}}}, Places: make([]int64, 4)}
}

// onlyWords checks just some words of at most three symbols: its states are the beginnings of these words, and one for all others.
func onlyWords(base int64, words ...string) impl.Chain {
	beginnings := []string{""}
	for length := 1; length <= len(words[0]); length++ {
		for _, word := range words {
			// All words end in one state.
			beginning := word[:length]
			if length == len(word) {
				beginning = "end"
			}
			if !slices.Contains(beginnings, beginning) {
				beginnings = append(beginnings, beginning)
			}
		}
	}
	other := int64(len(beginnings))
	table := [][]int64{}
	for _, beginning := range append(beginnings, "other") {
		row := []int64{}
		for d := range base {
			next := beginning + allSymbols[d:d+1]
			if slices.Contains(words, next) {
				next = "end"
			}
			state := int64(slices.Index(beginnings, next))
			if state < 0 {
				state = other
			}
			row = append(row, state)
		}
		table = append(table, row)
	}
	return impl.Chain{
		Base: base, States: other + 1, End: int64(slices.Index(beginnings, "end")),
		Tables: [][][]int64{table}, Places: make([]int64, len(words[0])),
	}
}

// numbersFrom returns numbers that look arbitrary, and are the same ones for the same seed.
func numbersFrom(seed int64) func(below int64) int64 {
	state := uint64(seed)*2654435761 + 12345
	return func(below int64) int64 {
		state = state*6364136223846793005 + 1442695040888963407
		return int64(state>>33) % below
	}
}

func randomChain(seed, states, base, places, tables int64) impl.Chain {
	number := numbersFrom(seed)
	c := impl.Chain{Base: base, States: states, Start: number(states), End: number(states)}
	for range tables {
		table := [][]int64{}
		for range states {
			row := []int64{}
			for range base {
				row = append(row, number(states))
			}
			table = append(table, row)
		}
		c.Tables = append(c.Tables, table)
	}
	for range places {
		c.Places = append(c.Places, number(tables))
	}
	return c
}

// changed returns a valid chain in which one thing has been changed.
func changed(change func(c *impl.Chain)) impl.Chain {
	c := remainders(3, 4, 1, 2, 3)
	change(&c)
	return c
}

func invalidChains() []impl.Chain {
	chains := []impl.Chain{
		changed(func(c *impl.Chain) { c.Base = 1 }),
		changed(func(c *impl.Chain) { c.Base = 2 }),
		changed(func(c *impl.Chain) { c.Base = 4 }),
		changed(func(c *impl.Chain) { c.Base = 37 }),
		changed(func(c *impl.Chain) { c.States = 0 }),
		changed(func(c *impl.Chain) { c.States = 3 }),
		changed(func(c *impl.Chain) { c.States = 5 }),
		changed(func(c *impl.Chain) { c.Tables = nil }),
		changed(func(c *impl.Chain) { c.Tables[2] = nil }),
		changed(func(c *impl.Chain) { c.Tables[1][3] = nil }),
		changed(func(c *impl.Chain) { c.Tables[1][0] = []int64{0, 1} }),
		changed(func(c *impl.Chain) { c.Tables[1][0] = []int64{0, 1, 2, 3} }),
		changed(func(c *impl.Chain) { c.Tables[2] = c.Tables[2][:3] }),
		changed(func(c *impl.Chain) { c.Tables[2] = append(c.Tables[2], []int64{0, 0, 0}) }),
		// A table that stands at no place must have the form as well.
		changed(func(c *impl.Chain) { c.Tables = append(c.Tables, nil) }),
		changed(func(c *impl.Chain) { c.Places = nil }),
		changed(func(c *impl.Chain) { c.Places = make([]int64, 21) }),
		changed(func(c *impl.Chain) { c.Places[0] = 3 }),
		changed(func(c *impl.Chain) { c.Places[2] = 3 }),
		remainders(2, 2, make([]int64, 21)...),
		sumChain(10, 16), sumChain(6, 20), sumChain(32, 10), sumChain(36, 10), sumChain(36, 20),
		sumChain(1, 3), sumChain(37, 2), remainders(2, 37, 1, 1),
	}
	for _, n := range []int64{math.MinInt64, -1, 4, 36, math.MaxInt64} {
		chains = append(chains,
			changed(func(c *impl.Chain) { c.Base = n }),
			changed(func(c *impl.Chain) { c.Start = n }),
			changed(func(c *impl.Chain) { c.End = n }),
			changed(func(c *impl.Chain) { c.Tables[0][0][0] = n }),
			changed(func(c *impl.Chain) { c.Tables[2][3][2] = n }),
			changed(func(c *impl.Chain) { c.Places[0] = n }),
			changed(func(c *impl.Chain) { c.Places[2] = n }))
		if n != 4 {
			chains = append(chains, changed(func(c *impl.Chain) { c.States = n }))
		}
	}
	many := remainders(2, 3, make([]int64, 20)...)
	many.Tables = append(many.Tables, sumTable(3, 2, 1))
	return append(chains, many)
}

// leads goes through a word as the document says it, symbol by symbol.
func leads(c impl.Chain, word string) int64 {
	state := c.Start
	for place, symbol := range word {
		state = c.Tables[c.Places[place]][state][strings.IndexRune(allSymbols, symbol)]
	}
	return state
}

// wordsOver returns all words with some number of symbols, in ascending order.
func wordsOver(base int64, symbols int) []string {
	words := []string{""}
	for range symbols {
		longer := []string{}
		for _, word := range words {
			for d := range base {
				longer = append(longer, word+allSymbols[d:d+1])
			}
		}
		words = longer
	}
	return words
}

func checkedWords(c impl.Chain) []string {
	checked := []string{}
	for _, word := range wordsOver(c.Base, len(c.Places)) {
		if leads(c, word) == c.End {
			checked = append(checked, word)
		}
	}
	return checked
}

var sizesOfKinds = []int{1, 2, 3, 2, 3, 2}

// isError reports whether an error of a kind makes the symbols to of the symbols from, as the document's table tells.
func isError(kind int64, from, to string) bool {
	switch kind {
	case impl.ErrSingle:
		return from != to
	case impl.ErrSwap:
		return from != to && to == from[1:]+from[:1]
	case impl.ErrJump:
		return from != to && to == from[2:]+from[1:2]+from[:1]
	case impl.ErrTwin:
		return from != to && from[0] == from[1] && to[0] == to[1]
	case impl.ErrJumpTwin:
		return from != to && from[0] == from[2] && to[0] == to[2] && from[1] == to[1]
	}
	isTy := func(s string) bool { return strings.Contains("23456789", s[:1]) && s[1] == '0' }
	isTeen := func(s string) bool { return s[0] == '1' && strings.Contains("23456789", s[1:]) }
	return isTy(from) && isTeen(to) && from[0] == to[1] || isTeen(from) && isTy(to) && from[1] == to[0]
}

// errorsOf returns what errors of a kind at a place make of a word.
func errorsOf(base, kind int64, word string, place int) []string {
	size := sizesOfKinds[kind]
	wrong := []string{}
	for _, to := range wordsOver(base, size) {
		if isError(kind, word[place:place+size], to) {
			wrong = append(wrong, word[:place]+to+word[place+size:])
		}
	}
	return wrong
}

// slowReport has what is told of the errors of a kind, from all words and all errors one by one.
type slowReport struct {
	undetectedAt, allAt []int64
	undetected, all     int64
	first, least        string
}

func reportOf(c impl.Chain, kind int64) slowReport {
	report := slowReport{}
	words := checkedWords(c)
	for place := 0; place+sizesOfKinds[kind] <= len(c.Places); place++ {
		undetected, all := int64(0), int64(0)
		for _, word := range words {
			for _, wrong := range errorsOf(c.Base, kind, word, place) {
				all++
				if leads(c, wrong) != c.End {
					continue
				}
				undetected++
				if report.first == "" || word < report.first || word == report.first && wrong < report.least {
					report.first, report.least = word, wrong
				}
			}
		}
		report.undetectedAt = append(report.undetectedAt, undetected)
		report.allAt = append(report.allAt, all)
		report.undetected += undetected
		report.all += all
	}
	return report
}

// placesApart counts the places at which two words with as many symbols differ.
func placesApart(v, w string) int {
	apart := 0
	for place := range v {
		if v[place] != w[place] {
			apart++
		}
	}
	return apart
}

// distanceOf goes through all pairs of checked words; it is 0 if there are none.
func distanceOf(words []string) int64 {
	least := 0
	for i, v := range words {
		for _, w := range words[:i] {
			if apart := placesApart(v, w); least == 0 || apart < least {
				least = apart
			}
		}
	}
	return int64(least)
}
