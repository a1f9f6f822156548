package tests

import (
	"slices"
	"strings"
	"testing"

	"loop.example/g01130/impl"
)

func TestPromise8ExamplesOfAlphabets(t *testing.T) {
	k := likeness("0O1I", "0O", "1I")
	expect(t, say(impl.ClearSymbols(k)), `"01" true`)
	expect(t, say(impl.FoldWord(k, "OI0")), `"010" true`)
	expect(t, say(impl.FamiliesOf(k)), `["0O" "1I"] true`)
}

// smallLikenesses have few enough symbols to go through all choices, texts and words of them.
func smallLikenesses() []impl.Likeness {
	likenesses := []impl.Likeness{}
	for _, symbols := range []string{"0", "Z", "ZW", "1I0", "Z0A9"} {
		likenesses = append(likenesses, allLikenesses(symbols)...)
	}
	return likenesses
}

// greaterLikenesses have symbols in several pairs, and several choices of as many clear symbols.
func greaterLikenesses() []impl.Likeness {
	likenesses := allLikenesses("WB0ZA")
	number := numbersFrom(71)
	for symbols := 6; symbols <= 11; symbols++ {
		for pairs := 0; pairs <= 40 && pairs <= symbols*(symbols-1)/2; pairs++ {
			likenesses = append(likenesses, randomLikeness(number, symbols, pairs))
		}
	}
	return likenesses
}

// greatestLikenesses have MaxSymbols symbols.
func greatestLikenesses() []impl.Likeness {
	likenesses := []impl.Likeness{likeness(mostAlike), likeness(mostAlike, pairsOf(mostAlike)[:40]...)}
	number := numbersFrom(72)
	for _, pairs := range []int{1, 5, 9, 14, 18, 24, 30, 39, 40, 40} {
		likenesses = append(likenesses, randomLikeness(number, 18, pairs))
	}
	return likenesses
}

func TestPromise8LikenessesAreAsTheDocumentSays(t *testing.T) {
	for _, k := range slices.Concat(smallLikenesses(), greaterLikenesses(), greatestLikenesses()) {
		if !impl.ValidLikeness(k) {
			t.Errorf("%v is valid", k)
		}
	}
	for symbols := range 19 {
		expect(t, say(impl.ValidLikeness(likeness(mostAlike[:symbols]))), say(symbols >= 1))
	}
	for symbol := range allSymbols {
		one := allSymbols[symbol : symbol+1]
		expect(t, say(impl.ValidLikeness(likeness(one)), impl.ValidLikeness(likeness(one+one))), `true false`)
		other := allSymbols[(symbol+7)%36 : (symbol+7)%36+1]
		expect(t, say(impl.ValidLikeness(likeness(one+other, other+one)), impl.ValidLikeness(likeness(one+other, one+one)), impl.ValidLikeness(likeness(one+other+one))), `true false false`)
	}
	pairs := pairsOf(mostAlike)
	for _, count := range []int{0, 1, 39, 40, 41, 42, 100, 153} {
		expect(t, say(count, impl.ValidLikeness(likeness(mostAlike, pairs[:count]...))), say(count, count <= 40))
	}
}

// Of all texts, just those of two different symbols of a likeness are pairs.
func TestPromise8PairsAreThoseOfTwoSymbols(t *testing.T) {
	for _, text := range stringsOf([]string{"0", "O", "1", "o"}, 4) {
		isPair := len(text) == 2 && text[0] != text[1] && !strings.Contains(text, "1") && !strings.Contains(text, "o")
		expect(t, say(text, impl.ValidLikeness(likeness("O0", text)), impl.ValidLikeness(likeness("0ZO", "Z0", text))), say(text, isPair, isPair))
	}
}

func TestPromise8InvalidLikenesses(t *testing.T) {
	for _, k := range invalidLikenesses() {
		if impl.ValidLikeness(k) {
			t.Errorf("%s is not valid", shortText(say(k)))
		}
		expect(t, say(impl.ClearSymbols(k)), noText)
		expect(t, say(impl.FamiliesOf(k)), noList)
		for _, text := range []string{"", "0", "01", "A", k.Symbols} {
			expect(t, say(impl.FoldWord(k, text)), noText)
			expect(t, say(impl.IsClear(k, text)), `false`)
		}
		for _, pair := range append([]string{"01", "10", "0O"}, k.Pairs[:min(len(k.Pairs), 50)]...) {
			if len(pair) > 1 {
				expectAll(t, `false`, say(impl.AreAlike(k, pair[:1], pair[1:])), say(impl.AreAlike(k, pair[1:], pair[:1])))
			}
		}
	}
}

func TestPromise8SymbolsAreAlikeInPairsAlone(t *testing.T) {
	for _, k := range slices.Concat(smallLikenesses(), greatestLikenesses()) {
		for _, a := range strings.Split(allSymbols, "") {
			for _, b := range strings.Split(allSymbols, "") {
				if impl.AreAlike(k, a, b) != slowAlike(k, a, b) {
					t.Fatalf("%v: %s and %s are alike, or not", k, a, b)
				}
			}
		}
	}
}

func TestPromise8TextsThatAreNotOneSymbolAreNotAlike(t *testing.T) {
	k := likeness("0O1I", "0O", "1I", "01")
	expectAll(t, `true`, say(impl.AreAlike(k, "0", "O")), say(impl.AreAlike(k, "O", "0")), say(impl.AreAlike(k, "I", "1")), say(impl.AreAlike(k, "1", "0")))
	expectAll(t, `false`, say(impl.AreAlike(k, "0", "0")), say(impl.AreAlike(k, "O", "O")), say(impl.AreAlike(k, "O", "I")), say(impl.AreAlike(k, "0", "I")))
	others := append([]string{"", "0O", "O0", "00", "01", "0O1I", "2", "A", "Z", strings.Repeat("0", 100000)}, textsThatAreNoSymbols...)
	for _, text := range others {
		for _, symbol := range append([]string{"0", "O", "1", "I"}, others...) {
			expectAll(t, `false`, say(impl.AreAlike(k, text, symbol)), say(impl.AreAlike(k, symbol, text)))
		}
	}
}

// All texts of the symbols of a likeness and of two others are held against all pairs.
func TestPromise8ClearTextsAreThoseWithoutPairs(t *testing.T) {
	for _, k := range smallLikenesses() {
		for _, text := range stringsOf(append(strings.Split(k.Symbols, ""), "X", "z"), min(5, len(k.Symbols)+1)) {
			if impl.IsClear(k, text) != slowClear(k, text) {
				t.Fatalf("%v: %q is clear, or not", k, text)
			}
		}
	}
	number := numbersFrom(73)
	for _, k := range greatestLikenesses() {
		for range 300 {
			text := shuffledText(number, k.Symbols)[:number(19)]
			expect(t, say(text, impl.IsClear(k, text)), say(text, slowClear(k, text)))
		}
	}
}

func TestPromise8ClearTextsHaveEachSymbolOnce(t *testing.T) {
	k := likeness("0O1I", "0O", "1I")
	for _, text := range []string{"", "0", "O", "I", "01", "0I", "10", "I0", "O1", "IO"} {
		expect(t, say(text, impl.IsClear(k, text)), say(text, true))
	}
	for _, text := range []string{"00", "0O", "O0", "1I", "010", "01I", "0O1I", "011", "2", "02", "20", "0o", "o", strings.Repeat("0", 100000), strings.Repeat("01", 50000)} {
		expect(t, shortText(say(text, impl.IsClear(k, text))), shortText(say(text, false)))
	}
	for _, text := range textsThatAreNoSymbols {
		expectAll(t, `false`, say(impl.IsClear(k, text)), say(impl.IsClear(k, "0"+text)), say(impl.IsClear(k, text+"0")), say(impl.IsClear(k, "0"+text+"1")))
	}
	all := likeness(mostAlike)
	expectAll(t, `true`, say(impl.IsClear(all, mostAlike)), say(impl.IsClear(all, reversed(mostAlike))), say(impl.IsClear(all, mostAlike[1:])), say(impl.IsClear(all, "")))
	expectAll(t, `false`, say(impl.IsClear(all, mostAlike+"0")), say(impl.IsClear(all, mostAlike+"C")), say(impl.IsClear(all, mostAlike[1:]+"O")))
}

func TestPromise8NoMoreSymbolsAreClear(t *testing.T) {
	for _, k := range slices.Concat(smallLikenesses(), greaterLikenesses(), greatestLikenesses()) {
		got, ok := impl.ClearSymbols(k)
		expect(t, say(k)+say(got, ok), say(k)+say(slowClearest(k), true))
		if !impl.IsClear(k, got) {
			t.Errorf("%v: %s is not clear", k, got)
		}
	}
}

// ringOf returns a likeness in which each symbol is alike to the next one, and the last one to the first.
func ringOf(symbols string) impl.Likeness {
	k := impl.Likeness{Symbols: symbols}
	for i := range symbols {
		next := (i + 1) % len(symbols)
		k.Pairs = append(k.Pairs, symbols[i:i+1]+symbols[next:next+1])
	}
	return k
}

func TestPromise8ClearSymbolsOfSomeLikenesses(t *testing.T) {
	for _, c := range []struct {
		k    impl.Likeness
		want string
	}{
		{likeness("7"), "7"},
		{likeness("10"), "10"},
		{likeness("10", "01"), "1"},
		{likeness("ZYX", "YX"), "ZY"},
		{likeness("ABC", "AB", "BC"), "AC"},
		{likeness("BAC", "AB", "BC"), "AC"},
		{likeness("BCA", "AB", "BC"), "CA"},
		{likeness("ABC", "AB", "BC", "CA"), "A"},
		{likeness("CAB", "AB", "BC", "CA"), "C"},
		// The symbol in several pairs is left out, wherever it stands.
		{likeness("0ABCD", "0A", "B0", "0C", "D0"), "ABCD"},
		{likeness("AB0CD", "0A", "B0", "0C", "D0"), "ABCD"},
		{likeness("ABCD0", "0A", "B0", "0C", "D0"), "ABCD"},
		// Two choices of as many symbols, of which the first one has the first symbol.
		{ringOf("ABCD"), "AC"},
		{ringOf("ABCDE"), "AC"},
		{ringOf("ABCDEF"), "ACE"},
		{likeness("ADBC", "AB", "BC", "CD", "DA"), "AC"},
		{likeness("ABCDEF", pairsAt("ABCDEF", [2]int{0, 3}, [2]int{0, 4}, [2]int{0, 5}, [2]int{1, 3}, [2]int{1, 4}, [2]int{1, 5}, [2]int{2, 3}, [2]int{2, 4}, [2]int{2, 5})...), "ABC"},
		{likeness("ABCDEF", "AB", "CD", "EF"), "ACE"},
		{likeness("BACDFE", "AB", "CD", "EF"), "BCF"},
		// With the first symbol there are fewer of them.
		{likeness("ABCDE", "AB", "AC", "AD", "BC"), "BDE"},
		// All nine symbols are alike, and of four more none is.
		{likeness("012345678", pairsOf("012345678")...), "0"},
		{likeness("ZYXWVUTSR", pairsOf("ZYXWVUTSR")...), "Z"},
		{likeness("A0B1C2D345678", pairsOf("012345678")...), "A0BCD"},
		{likeness(mostAlike), mostAlike},
		{ringOf(mostAlike), "01Q528UWN"},
	} {
		expect(t, say(c.k)+say(impl.ClearSymbols(c.k)), say(c.k)+say(c.want, true))
	}
}

// A likeness with the same pairs in another order and turned round is the same.
func TestPromise8TheOrderOfPairsDoesNotMatter(t *testing.T) {
	number := numbersFrom(74)
	for _, k := range greatestLikenesses() {
		other := impl.Likeness{Symbols: k.Symbols}
		for _, i := range shuffled(number, len(k.Pairs)) {
			pair := k.Pairs[i]
			if number(2) == 0 {
				pair = reversed(pair)
			}
			other.Pairs = append(other.Pairs, pair)
		}
		expect(t, say(impl.ClearSymbols(other)), say(impl.ClearSymbols(k)))
		expect(t, say(impl.FamiliesOf(other)), say(impl.FamiliesOf(k)))
		expect(t, say(impl.FoldWord(other, k.Symbols)), say(impl.FoldWord(k, k.Symbols)))
	}
}

func TestPromise8FamiliesAreReachedFromSymbolToSymbol(t *testing.T) {
	for _, k := range slices.Concat(smallLikenesses(), greaterLikenesses(), greatestLikenesses()) {
		got, ok := impl.FamiliesOf(k)
		expect(t, say(k)+say(got, ok), say(k)+say(slowFamilies(k), true))
		joined := strings.Split(strings.Join(got, ""), "")
		slices.Sort(joined)
		symbols := strings.Split(k.Symbols, "")
		slices.Sort(symbols)
		expect(t, say(joined), say(symbols))
	}
}

// pathThrough returns a likeness of symbols in which those of a path are alike to the next ones.
func pathThrough(symbols, path string) impl.Likeness {
	k := impl.Likeness{Symbols: symbols}
	for i := range path[1:] {
		k.Pairs = append(k.Pairs, path[i:i+2])
	}
	return k
}

func TestPromise8FamiliesOfSomeLikenesses(t *testing.T) {
	for _, c := range []struct {
		k    impl.Likeness
		want []string
	}{
		{likeness("7"), []string{"7"}},
		{likeness("10"), []string{"1", "0"}},
		{likeness("10", "01"), []string{"10"}},
		{likeness("ABC", "AB", "BC"), []string{"ABC"}},
		{likeness("CAB", "BC"), []string{"CB", "A"}},
		{likeness("0A1B2C", "CA", "AB", "02"), []string{"02", "ABC", "1"}},
		// The last symbol of a path is the first one, or stands between the others.
		{pathThrough("ABCDEFGH", "AHBGCFDE"), []string{"ABCDEFGH"}},
		{pathThrough("ABCDEFGH", "EDFCGBHA"), []string{"ABCDEFGH"}},
		{pathThrough("XABCDEFGHY", "HGFEDCBA"), []string{"X", "ABCDEFGH", "Y"}},
		{pathThrough(mostAlike, mostAlike), []string{mostAlike}},
		{pathThrough(mostAlike, reversed(mostAlike)), []string{mostAlike}},
		{pathThrough(reversed(mostAlike), mostAlike[:17]), []string{reversed(mostAlike)[:1], reversed(mostAlike)[1:]}},
		{likeness(mostAlike), strings.Split(mostAlike, "")},
		{likeness("012345678", pairsOf("012345678")...), []string{"012345678"}},
	} {
		expect(t, say(c.k)+say(impl.FamiliesOf(c.k)), say(c.k)+say(c.want, true))
		for _, family := range c.want {
			expect(t, say(impl.FoldWord(c.k, family)), say(strings.Repeat(family[:1], len(family)), true))
		}
	}
}

func TestPromise8WordsAreFoldedSymbolBySymbol(t *testing.T) {
	for _, k := range smallLikenesses() {
		for _, word := range stringsOf(strings.Split(k.Symbols, ""), 4) {
			expect(t, say(k, word)+say(impl.FoldWord(k, word)), say(k, word)+say(slowFold(k, word), true))
		}
	}
	number := numbersFrom(75)
	for _, k := range slices.Concat(greaterLikenesses(), greatestLikenesses()) {
		word := shuffledText(number, k.Symbols)
		folded, ok := impl.FoldWord(k, word)
		expect(t, say(k, word)+say(folded, ok), say(k, word)+say(slowFold(k, word), true))
		// What is folded once stays as it is.
		expect(t, say(impl.FoldWord(k, folded)), say(folded, true))
	}
}

func TestPromise8WordsThatAreNotFolded(t *testing.T) {
	k := likeness("0O1I", "0O", "1I")
	for _, c := range []struct{ word, want string }{
		{"", ""}, {"0", "0"}, {"O", "0"}, {"I", "1"}, {"0O1I", "0011"}, {"OOO", "000"}, {"IO", "10"},
		{strings.Repeat("O", 19), strings.Repeat("0", 19)}, {strings.Repeat("O", 20), strings.Repeat("0", 20)}, {strings.Repeat("IO", 10), strings.Repeat("10", 10)},
	} {
		expect(t, say(c.word)+say(impl.FoldWord(k, c.word)), say(c.word)+say(c.want, true))
	}
	for _, word := range []string{"2", "02", "20", "0A1", "Z", "0O1I2", strings.Repeat("O", 21), strings.Repeat("0", 100000), strings.Repeat("O", 19) + "é", strings.Repeat("O", 20) + "2"} {
		expect(t, say(impl.FoldWord(k, word)), noText)
	}
	for _, text := range textsThatAreNoSymbols {
		expectAll(t, noText, say(impl.FoldWord(k, text)), say(impl.FoldWord(k, "0"+text)), say(impl.FoldWord(k, text+"I")), say(impl.FoldWord(k, "0"+text+"1")))
	}
	// Of all symbols, just those of the likeness are folded.
	for _, symbol := range strings.Split(allSymbols, "") {
		want := noText
		if strings.Contains(mostAlike, symbol) {
			want = say(symbol, true)
		}
		expect(t, say(symbol)+say(impl.FoldWord(likeness(mostAlike), symbol)), say(symbol)+want)
	}
}
