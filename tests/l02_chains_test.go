package tests

import (
	"math"
	"slices"
	"strings"
	"testing"

	"loop.example/g01130/impl"
)

// smallChains are those whose words and errors are gone through one by one.
func smallChains() []impl.Chain {
	chains := []impl.Chain{
		parity(1), parity(2), parity(3), parity(6), sumChain(10, 1), sumChain(10, 3), sumChain(11, 3), sumChain(36, 2),
		noWords(), oneWord(), oneState(2, 1), oneState(2, 5), oneState(10, 2), oneState(11, 3), oneState(36, 1),
		remainders(10, 10, 1, 3, 1), remainders(10, 11, 3, 2, 1), remainders(10, 7, 1, 2, 4), remainders(3, 36, 5, 7, 11, 13),
		onlyWords(2, "0101"), onlyWords(3, "012", "210"), onlyWords(10, "120", "150", "115", "101"), onlyWords(10, "20", "12", "90", "18"),
	}
	for seed := range int64(60) {
		number := numbersFrom(seed)
		chains = append(chains, randomChain(seed, 1+number(6), 2+number(3), 1+number(5), 1+number(4)))
	}
	for seed := range int64(6) {
		number := numbersFrom(seed)
		chains = append(chains, randomChain(100+seed, 36, 10, 3, 20), randomChain(200+seed, 2+number(20), 10+number(3), 2, 2))
	}
	return chains
}

func TestPromise3ExamplesOfTheChapter(t *testing.T) {
	c, ok := impl.EvenChain([][]int64{{0, 1}, {1, 0}}, 3, 0, 0)
	expect(t, say(c, ok), say(parity(3), true))
	expect(t, say(impl.CountWords(c)), `4 true`)
	expect(t, say(impl.WordAt(c, 1)), `"011" true`)
	expect(t, say(impl.UndetectedIn(c, impl.ErrSingle)), `0 12 true`)
	expect(t, say(impl.UndetectedIn(c, impl.ErrSwap)), `4 4 true`)
}

func TestPromise3ValidChains(t *testing.T) {
	for _, c := range append(smallChains(),
		// The limits are just reached.
		sumChain(10, 15), sumChain(5, 20), sumChain(6, 19), sumChain(31, 10), sumChain(36, 9), sumChain(2, 20),
		remainders(36, 36, make([]int64, 9)...), remainders(2, 36, make([]int64, 20)...), randomChain(1, 36, 5, 20, 20),
		changed(func(c *impl.Chain) { c.Start, c.End, c.Tables[0][0][0] = 3, 3, 3 }),
		changed(func(c *impl.Chain) { c.Places = []int64{2, 2, 0, 2} }),
	) {
		if !impl.ValidChain(c) {
			t.Errorf("%v is valid", c)
		}
	}
}

func TestPromise3InvalidChains(t *testing.T) {
	for i, c := range invalidChains() {
		if impl.ValidChain(c) {
			t.Errorf("%v is not valid", c)
		}
		word := strings.Repeat("0", len(c.Places))
		expectAll(t, `0 false`, say(impl.RunChain(c, word)), say(impl.CountWords(c)), say(impl.RankOfWord(c, word)), say(impl.LeastDistance(c)))
		expectAll(t, `"" false`, say(impl.WordAt(c, 0)), say(impl.CheckSymbols(c, word, 0)))
		for kind := range int64(6) {
			expectAll(t, `0 0 false`, say(impl.UndetectedAt(c, kind, 0)), say(impl.UndetectedIn(c, kind)))
			expect(t, say(impl.FirstUndetected(c, kind)), `"" "" false`)
			expect(t, say(impl.IsCaught(c, kind)), `false`)
		}
		expect(t, say(impl.IsChecked(c, word)), `false`)
		noChain := say(impl.Chain{}, false)
		expectAll(t, noChain, say(impl.JoinChains(c, c)), say(impl.JoinChains(c, parity(3))), say(impl.JoinChains(remainders(3, 4, 1, 2, 3), c)))
		if t.Failed() {
			t.Fatalf("with the invalid chain %d: %v", i, c)
		}
	}
}

func TestPromise3WordsLeadAsTablesSay(t *testing.T) {
	for _, c := range smallChains() {
		for _, word := range wordsOver(c.Base, len(c.Places)) {
			state := leads(c, word)
			expect(t, say(impl.RunChain(c, word)), say(state, true))
			expect(t, say(impl.IsChecked(c, word)), say(state == c.End))
		}
	}
}

func TestPromise3WordsThatAreNone(t *testing.T) {
	c := sumChain(10, 3)
	for _, word := range []string{"", "0", "00", "0000", "00A", "00a", "00 ", "0-1", "é0", "00\x00", "\xff00", "００", "A00", "0A0"} {
		expectAll(t, `0 false`, say(impl.RunChain(c, word)), say(impl.RankOfWord(c, word)))
		expect(t, say(impl.IsChecked(c, word)), `false`)
		expect(t, say(impl.CheckSymbols(c, word, 0)), `"" false`)
	}
	expect(t, say(impl.RunChain(sumChain(36, 3), "Z0Z")), `34 true`)
	expect(t, say(impl.RunChain(sumChain(35, 3), "Z0Z")), `0 false`)
	expect(t, say(impl.RunChain(sumChain(35, 3), "Y0Y")), `33 true`)
}

func TestPromise3RanksAreThoseOfAllCheckedWords(t *testing.T) {
	for _, c := range smallChains() {
		checked := checkedWords(c)
		count := int64(len(checked))
		expect(t, say(impl.CountWords(c)), say(count, true))
		for rank, word := range checked {
			expect(t, say(impl.WordAt(c, int64(rank))), say(word, true))
			expect(t, say(impl.RankOfWord(c, word)), say(rank, true))
		}
		for _, word := range wordsOver(c.Base, len(c.Places)) {
			if !slices.Contains(checked, word) {
				expect(t, say(impl.RankOfWord(c, word)), `0 false`)
				break
			}
		}
		for _, rank := range []int64{math.MinInt64, -1, count, count + 1, math.MaxInt64} {
			expect(t, say(impl.WordAt(c, rank)), `"" false`)
		}
	}
}

func TestPromise3WordsOfGreatChains(t *testing.T) {
	c := sumChain(10, 15)
	expect(t, say(impl.CountWords(c)), `100000000000000 true`)
	expect(t, say(impl.WordAt(c, 0)), `"000000000000000" true`)
	expect(t, say(impl.WordAt(c, 1)), `"000000000000019" true`)
	expect(t, say(impl.WordAt(c, 12345678901234)), `"123456789012345" true`)
	expect(t, say(impl.WordAt(c, 99999999999999)), `"999999999999994" true`)
	expect(t, say(impl.WordAt(c, 100000000000000)), `"" false`)
	expect(t, say(impl.RankOfWord(c, "123456789012345")), `12345678901234 true`)
	expect(t, say(impl.RankOfWord(c, "123456789012341")), `0 false`)
	all := oneState(36, 9)
	expect(t, say(impl.CountWords(all)), `101559956668416 true`)
	expect(t, say(impl.WordAt(all, 101559956668415)), `"ZZZZZZZZZ" true`)
	expect(t, say(impl.WordAt(all, 35)), `"00000000Z" true`)
	expect(t, say(impl.RankOfWord(all, "000000010")), `36 true`)
	long := parity(20)
	expect(t, say(impl.CountWords(long)), `524288 true`)
	expect(t, say(impl.WordAt(long, 524287)), `"11111111111111111111" true`)
	expect(t, say(impl.RunChain(long, "01111111111111111111")), `1 true`)
	expect(t, say(impl.CountWords(sumChain(5, 20))), `19073486328125 true`)
}

func TestPromise3RanksOfGreatChainsAreRead(t *testing.T) {
	for _, c := range []impl.Chain{randomChain(3, 36, 5, 20, 20), randomChain(4, 36, 36, 9, 9), randomChain(5, 20, 10, 15, 3)} {
		count, ok := impl.CountWords(c)
		if !ok || count < 1000 {
			t.Fatalf("there are just %d words", count)
		}
		before := ""
		for i := range int64(100) {
			rank := count / 100 * i
			word, ok := impl.WordAt(c, rank)
			if !ok || word <= before || leads(c, word) != c.End {
				t.Errorf("%q cannot be the word with the rank %d", word, rank)
			}
			expect(t, say(impl.RankOfWord(c, word)), say(rank, true))
			before = word
		}
	}
}

func TestPromise3CheckSymbols(t *testing.T) {
	for _, c := range smallChains() {
		for i, word := range wordsOver(c.Base, len(c.Places)) {
			if i%7 > 0 {
				continue
			}
			for place := range c.Places {
				want := ""
				for d := range c.Base {
					if leads(c, word[:place]+allSymbols[d:d+1]+word[place+1:]) == c.End {
						want += allSymbols[d : d+1]
					}
				}
				expect(t, say(impl.CheckSymbols(c, word, int64(place))), say(want, true))
			}
			for _, place := range []int64{math.MinInt64, -1, int64(len(c.Places)), math.MaxInt64} {
				expect(t, say(impl.CheckSymbols(c, word, place)), `"" false`)
			}
		}
	}
	expect(t, say(impl.CheckSymbols(sumChain(36, 2), "Z5", 1)), `"1" true`)
	expect(t, say(impl.CheckSymbols(oneState(36, 9), "012345678", 8)), say(allSymbols, true))
	expect(t, say(impl.CheckSymbols(noWords(), "000", 0)), `"" true`)
}

func TestPromise3JoinedChainsCheckWhatBothCheck(t *testing.T) {
	chains := smallChains()
	joined := 0
	for i, c := range chains {
		for _, d := range chains[:i+1] {
			both, ok := impl.JoinChains(c, d)
			fits := c.Base == d.Base && len(c.Places) == len(d.Places) && c.States*d.States <= impl.MaxStates
			if ok != fits {
				t.Fatalf("joining %v and %v: %v", c, d, ok)
			}
			if !ok {
				expect(t, say(both), say(impl.Chain{}))
				continue
			}
			joined++
			expect(t, say(both), say(joinedChain(c, d)))
			for _, word := range wordsOver(c.Base, len(c.Places)) {
				expect(t, say(impl.IsChecked(both, word)), say(leads(c, word) == c.End && leads(d, word) == d.End))
			}
		}
	}
	if joined < 50 {
		t.Errorf("just %d chains have been joined", joined)
	}
}

// joinedChain makes each number of a joined chain as the document says it.
func joinedChain(c, d impl.Chain) impl.Chain {
	both := impl.Chain{Base: c.Base, States: c.States * d.States, Start: c.Start*d.States + d.Start, End: c.End*d.States + d.End}
	for place := range c.Places {
		table := [][]int64{}
		for state := range both.States {
			row := []int64{}
			for symbol := range both.Base {
				x := c.Tables[c.Places[place]][state/d.States][symbol]
				y := d.Tables[d.Places[place]][state%d.States][symbol]
				row = append(row, x*d.States+y)
			}
			table = append(table, row)
		}
		both.Tables = append(both.Tables, table)
		both.Places = append(both.Places, int64(place))
	}
	return both
}

func TestPromise3JoinedChainsWithinTheLimits(t *testing.T) {
	c, d := randomChain(1, 9, 5, 20, 20), randomChain(2, 4, 5, 20, 1)
	both, ok := impl.JoinChains(c, d)
	expect(t, say(both, ok), say(joinedChain(c, d), true))
	expect(t, say(both.States, len(both.Tables), len(both.Places), impl.ValidChain(both)), `36 20 20 true`)
	wide, one := randomChain(3, 36, 5, 20, 20), oneState(5, 20)
	both, ok = impl.JoinChains(wide, one)
	expect(t, say(both, ok), say(joinedChain(wide, one), true))
	both, ok = impl.JoinChains(one, wide)
	expect(t, say(both, ok), say(joinedChain(one, wide), true))
	none := say(impl.Chain{}, false)
	expectAll(t, none,
		say(impl.JoinChains(randomChain(1, 18, 5, 20, 2), randomChain(2, 3, 5, 20, 2))),
		say(impl.JoinChains(randomChain(1, 19, 5, 20, 2), randomChain(2, 2, 5, 20, 2))),
		say(impl.JoinChains(randomChain(1, 36, 5, 20, 2), randomChain(2, 36, 5, 20, 2))),
		say(impl.JoinChains(parity(3), parity(4))),
		say(impl.JoinChains(parity(3), sumChain(3, 3))))
}

func TestPromise3EvenChains(t *testing.T) {
	table := sumTable(7, 10, 3)
	for _, places := range []int64{1, 2, 15} {
		want := impl.Chain{Base: 10, States: 7, Start: 2, End: 6, Tables: [][][]int64{table}, Places: make([]int64, places)}
		c, ok := impl.EvenChain(table, places, 2, 6)
		expect(t, say(c, ok), say(want, true))
	}
	c, ok := impl.EvenChain(sumTable(36, 36, 1), 9, 35, 0)
	expect(t, say(c.Base, c.States, c.Start, c.End, len(c.Tables), len(c.Places), ok), `36 36 35 0 1 9 true`)
	c, ok = impl.EvenChain([][]int64{{0, 0}}, 20, 0, 0)
	expect(t, say(c, ok), say(oneState(2, 20), true))
}

func TestPromise3EvenChainsThatAreNotValid(t *testing.T) {
	good := sumTable(2, 2, 1)
	none := say(impl.Chain{}, false)
	for _, n := range []int64{math.MinInt64, -1, 0, 21, 1000000000000, math.MaxInt64} {
		expect(t, say(impl.EvenChain(good, n, 0, 0)), none)
	}
	for _, n := range []int64{math.MinInt64, -1, 2, math.MaxInt64} {
		expectAll(t, none, say(impl.EvenChain(good, 3, n, 0)), say(impl.EvenChain(good, 3, 0, n)))
	}
	for _, table := range [][][]int64{
		nil, {}, {nil}, {{}}, {{0}}, {{0}, {1}}, {{0, 1}}, {{0, 1}, {1}}, {{0}, {1, 0}}, {{0, 1}, nil}, {nil, {0, 1}},
		{{0, 1}, {1, 0, 1}}, {{0, 2}, {1, 0}}, {{0, 1}, {-1, 0}}, sumTable(37, 2, 1), sumTable(2, 37, 1), sumTable(3, 3, 1)[:2],
	} {
		expect(t, say(impl.EvenChain(table, 3, 0, 0)), none)
	}
	expectAll(t, none, say(impl.EvenChain(sumTable(3, 10, 1), 16, 0, 0)), say(impl.EvenChain(sumTable(3, 36, 1), 10, 0, 0)))
}

func TestPromise3MadeChainsHaveMemoryOfTheirOwn(t *testing.T) {
	table := sumTable(2, 2, 1)
	c, _ := impl.EvenChain(table, 3, 0, 0)
	table[1][0] = 0
	expect(t, say(c), say(parity(3)))
	d, _ := impl.JoinChains(c, c)
	want := say(d)
	c.Tables[0][0][0], c.Places[0] = 1, 7
	expect(t, say(d), want)
	// Places with the same table have different ones in a joined chain.
	d.Tables[0][0][0] = 3
	expect(t, say(d.Tables[1][0][0]), `0`)
}
