package tests

import (
	"math/big"
	"slices"
	"strings"

	"loop.example/g01130/impl"
)

// mostAlike has as many symbols as a likeness can have.
const mostAlike = "0O1IQL5S2Z8BUVWMNA"

func likeness(symbols string, pairs ...string) impl.Likeness {
	return impl.Likeness{Symbols: symbols, Pairs: pairs}
}

// pairsOf returns all pairs of symbols, some of them in the opposite order.
func pairsOf(symbols string) []string {
	pairs := []string{}
	for i := range symbols {
		for k := range symbols[:i] {
			if (i+k)%2 == 0 {
				pairs = append(pairs, symbols[i:i+1]+symbols[k:k+1])
			} else {
				pairs = append(pairs, symbols[k:k+1]+symbols[i:i+1])
			}
		}
	}
	return pairs
}

// pairsAt returns symbols with the given indices as pairs.
func pairsAt(symbols string, indices ...[2]int) []string {
	pairs := []string{}
	for _, pair := range indices {
		pairs = append(pairs, symbols[pair[0]:pair[0]+1]+symbols[pair[1]:pair[1]+1])
	}
	return pairs
}

// allLikenesses returns the likenesses of some symbols with all sets of pairs.
func allLikenesses(symbols string) []impl.Likeness {
	likenesses := []impl.Likeness{}
	pairs := pairsOf(symbols)
	for set := range 1 << len(pairs) {
		k := impl.Likeness{Symbols: symbols}
		for i, pair := range pairs {
			if set&(1<<i) != 0 {
				k.Pairs = append(k.Pairs, pair)
			}
		}
		likenesses = append(likenesses, k)
	}
	return likenesses
}

// shuffledText returns a text with its symbols in an arbitrary order.
func shuffledText(number func(int64) int64, text string) string {
	other := ""
	for _, i := range shuffled(number, len(text)) {
		other += text[i : i+1]
	}
	return other
}

func randomLikeness(number func(int64) int64, symbols, pairs int) impl.Likeness {
	k := impl.Likeness{Symbols: shuffledText(number, allSymbols)[:symbols]}
	all := pairsOf(k.Symbols)
	for _, i := range shuffled(number, len(all)) {
		if len(k.Pairs) < pairs {
			k.Pairs = append(k.Pairs, all[i])
		}
	}
	return k
}

// slowAlike looks for a pair in both orders.
func slowAlike(k impl.Likeness, a, b string) bool {
	return slices.Contains(k.Pairs, a+b) || slices.Contains(k.Pairs, b+a)
}

// slowClear looks at all symbols of a text, and at any two of them.
func slowClear(k impl.Likeness, text string) bool {
	for i := range text {
		if !strings.Contains(k.Symbols, text[i:i+1]) {
			return false
		}
		for other := range text[:i] {
			if text[other] == text[i] || slowAlike(k, text[other:other+1], text[i:i+1]) {
				return false
			}
		}
	}
	return true
}

// indexPairs has the indices of the symbols of all pairs, with a bit for each of them.
func indexPairs(k impl.Likeness) []int {
	pairs := []int{}
	for _, pair := range k.Pairs {
		pairs = append(pairs, 1<<strings.Index(k.Symbols, pair[:1])|1<<strings.Index(k.Symbols, pair[1:]))
	}
	return pairs
}

// slowClearest goes through all choices of symbols.
func slowClearest(k impl.Likeness) string {
	pairs, best := indexPairs(k), []int{}
	for chosen := range 1 << len(k.Symbols) {
		if slices.ContainsFunc(pairs, func(pair int) bool { return chosen&pair == pair }) {
			continue
		}
		indices := []int{}
		for i := range k.Symbols {
			if chosen&(1<<i) != 0 {
				indices = append(indices, i)
			}
		}
		if len(indices) > len(best) || len(indices) == len(best) && slices.Compare(indices, best) < 0 {
			best = indices
		}
	}
	text := ""
	for _, i := range best {
		text += k.Symbols[i : i+1]
	}
	return text
}

// slowFamily goes from a symbol to those that are alike, and on from these.
func slowFamily(k impl.Likeness, symbol string) string {
	reached := symbol
	for i := 0; i < len(reached); i++ {
		for _, other := range strings.Split(k.Symbols, "") {
			if !strings.Contains(reached, other) && slowAlike(k, reached[i:i+1], other) {
				reached += other
			}
		}
	}
	family := ""
	for _, other := range strings.Split(k.Symbols, "") {
		if strings.Contains(reached, other) {
			family += other
		}
	}
	return family
}

func slowFamilies(k impl.Likeness) []string {
	families := []string{}
	for _, symbol := range strings.Split(k.Symbols, "") {
		if family := slowFamily(k, symbol); !slices.Contains(families, family) {
			families = append(families, family)
		}
	}
	return families
}

func slowFold(k impl.Likeness, word string) string {
	folded := ""
	for i := range word {
		folded += slowFamily(k, word[i:i+1])[:1]
	}
	return folded
}

// textsThatAreNoSymbols are not even one symbol.
var textsThatAreNoSymbols = []string{
	"a", "z", "o", " ", "-", "=", "é", "\x00", "\xff", "\xc3", "\xc3\x28", "０", "Ａ", "/", ":", "@", "[", "`", "{", "\n",
}

// invalidLikenesses differ in one point from valid ones.
func invalidLikenesses() []impl.Likeness {
	invalid := []impl.Likeness{
		{}, likeness("", "01"), likeness(mostAlike + "C"), likeness(allSymbols), likeness(strings.Repeat("0", 100000)),
		likeness("00"), likeness("0AA"), likeness("A0A"), likeness("ZABCZ"), likeness("YY"), likeness("WW"), likeness("VV"), likeness("0V0"), likeness("ABCDEZZ"),
		likeness("01", ""), likeness("01", "0"), likeness("01", "1"), likeness("01", "010"), likeness("012", "012"), likeness("012", "0122"), likeness("01", "0101"),
		likeness("01", "00"), likeness("01", "11"), likeness("01", "000"), likeness("01", "02"), likeness("01", "20"), likeness("01", "22"), likeness("01", "23"),
		likeness("01", "0 1"), likeness("01", "01 "), likeness("01", " 01"), likeness("01", "0-1"), likeness("OI", "oI"), likeness("OI", "Oi"),
		likeness("01", strings.Repeat("0", 100000)), likeness("01", strings.Repeat("01", 50000)),
		likeness("01", "01", "01"), likeness("01", "01", "10"), likeness("01", "10", "01"), likeness("01", "10", "10"),
		likeness("012", "01", "12", "01"), likeness("012", "01", "12", "10"), likeness("012", "12", "02", "20"), likeness("012", "12", "21", "02"),
		likeness("0", "00"), likeness("0", "01"), likeness("0", ""),
		likeness(mostAlike, pairsOf(mostAlike)[:41]...), likeness(mostAlike, pairsOf(mostAlike)...), likeness("01", slices.Repeat([]string{"01"}, 41)...),
		likeness("01", make([]string, 100000)...), likeness("01", make([]string, 2)...),
	}
	for _, text := range textsThatAreNoSymbols {
		invalid = append(invalid, likeness(text), likeness("01"+text), likeness(text+"01"), likeness("0"+text+"1"))
		invalid = append(invalid, likeness("01", "0"+text), likeness("01", text+"1"), likeness("01", text))
	}
	pairs := pairsOf(mostAlike)[:40]
	for _, wrong := range []string{"0", "00", "OO", "0O1", "0C", "CD", "", pairs[7], pairs[31], reversed(pairs[7]), reversed(pairs[31])} {
		for _, place := range []int{0, 1, 20, 38, 39} {
			others := slices.Clone(pairs)
			others[place] = wrong
			invalid = append(invalid, likeness(mostAlike, others...))
		}
	}
	return invalid
}

func reversed(text string) string {
	other := ""
	for i := range text {
		other = text[i:i+1] + other
	}
	return other
}

func speech(firsts, seconds string) impl.Speech {
	return impl.Speech{Firsts: firsts, Seconds: seconds}
}

const (
	// mostFirstLetters and mostSecondLetters are all letters together.
	mostFirstLetters  = "bcdfghjklmnpqrstvwxz"
	mostSecondLetters = "aeiouy"
)

// invalidSpeeches differ in one point from valid ones.
func invalidSpeeches() []impl.Speech {
	invalid := []impl.Speech{
		{}, speech("", "a"), speech("b", ""), speech("bcdfghjklmnpqrstvwxzy", "aeiou"), speech("b", "aeiouyz"), speech("bcdfghjklmnpqrstvwxyz", "a"), speech("bcd", "aeioufg"),
		speech("bb", "a"), speech("bdb", "a"), speech("bddf", "a"), speech("zz", "a"), speech("b", "aa"), speech("b", "aia"), speech("b", "zz"), speech("bdfb", "ae"), speech("bd", "aeia"),
		speech("a", "a"), speech("ab", "a"), speech("ab", "bc"), speech("ab", "ia"), speech("ba", "ia"), speech("bcd", "d"), speech("b", "cab"), speech("zbc", "az"),
		speech(mostFirstLetters, "aeioub"), speech(mostFirstLetters, "aeiouz"), speech(mostFirstLetters+"b", "a"), speech(strings.Repeat("b", 100000), "a"), speech("b", strings.Repeat("a", 100000)),
		speech(allSmallLetters, allSmallLetters), speech(allSmallLetters, ""), speech("", allSmallLetters), speech("B", "a"), speech("b", "A"), speech("bD", "a"), speech("b", "aI"),
	}
	for _, text := range textsThatAreNoLetters {
		if len(text) < 10 {
			invalid = append(invalid, speech(text, "a"), speech("b"+text, "a"), speech(text+"b", "a"), speech("b", text), speech("b", "a"+text), speech("b", text+"a"))
		}
	}
	return invalid
}

const allSmallLetters = "abcdefghijklmnopqrstuvwxyz"

// textsThatAreNoLetters are not heard, each one with something else than letters in it.
var textsThatAreNoLetters = []string{
	"A", "Z", "0", "9", " ", "-", "=", "é", "\x00", "\xff", "\xc3", "\xc3\x28", "ａ", "`", "{", "@", "[", "\n", "a b", "five-", "fivE", "nin\xff",
}

// syllablesOf returns all syllables in the order of their numbers.
func syllablesOf(p impl.Speech) []string {
	syllables := []string{}
	for i := range p.Firsts {
		for k := range p.Seconds {
			syllables = append(syllables, p.Firsts[i:i+1]+p.Seconds[k:k+1])
		}
	}
	return syllables
}

// spokenTexts returns what is spoken with some syllables in the order of the numbers.
func spokenTexts(p impl.Speech, syllables int) []string {
	texts := []string{""}
	for i := range syllables {
		longer := []string{}
		for _, text := range texts {
			for _, syllable := range syllablesOf(p) {
				if i > 0 {
					syllable = "-" + syllable
				}
				longer = append(longer, text+syllable)
			}
		}
		texts = longer
	}
	return texts
}

// powerOf does not overflow.
func powerOf(base, exponent int64) *big.Int {
	return new(big.Int).Exp(big.NewInt(base), big.NewInt(exponent), nil)
}

// isSpoken reports whether some syllables speak numbers.
func isSpoken(p impl.Speech, syllables int64) bool {
	power := powerOf(int64(len(syllablesOf(p))), syllables)
	return syllables >= 1 && syllables <= 8 && power.Cmp(big.NewInt(impl.MaxValue)) <= 0
}

// heardNumber adds the numbers of the syllables of a text, each times its power.
func heardNumber(p impl.Speech, text string) int64 {
	sum, all := new(big.Int), syllablesOf(p)
	parts := strings.Split(text, "-")
	slices.Reverse(parts)
	for i, part := range parts {
		number := big.NewInt(int64(slices.Index(all, part)))
		sum.Add(sum, number.Mul(number, powerOf(int64(len(all)), int64(i))))
	}
	return sum.Int64()
}

// leastGapOf goes through all pairs of words.
func leastGapOf(book scriptBook, words []string) (least, first, second int64) {
	least = 1000
	for i, a := range words {
		for k, b := range words {
			if gap := costOf(book.least(a, b)); i < k && gap < least {
				least, first, second = gap, int64(i), int64(k)
			}
		}
	}
	return least, first, second
}

// heardWord goes through all words.
func heardWord(book scriptBook, words []string, heard string, most int64) (int64, bool) {
	found := []int64{}
	for i, word := range words {
		if costOf(book.least(word, heard)) <= most {
			found = append(found, int64(i))
		}
	}
	if len(found) != 1 {
		return 0, false
	}
	return found[0], true
}

// lettersOf returns a text of letters, of which there are some different ones.
func lettersOf(number func(int64) int64, different int64, length int) string {
	return randomText(number, allSmallLetters[:different], length)
}

func randomLexicon(number func(int64) int64, different int64, most, words int) []string {
	lexicon := []string{}
	for len(lexicon) < words {
		if word := lettersOf(number, different, 1+int(number(int64(most)))); !slices.Contains(lexicon, word) {
			lexicon = append(lexicon, word)
		}
	}
	return lexicon
}

// lexiconOf returns a lexicon of as many words, no two of which are near to one another.
func lexiconOf(words int) []string {
	lexicon := []string{}
	for i := range words {
		lexicon = append(lexicon, strings.Repeat(allSmallLetters[i:i+1], 20-i))
	}
	return lexicon
}

// marked puts a mark behind each group of a word; the sizes must fit.
func marked(word string, sizes []int64) string {
	text, place := "", int64(0)
	for i, size := range sizes {
		if i > 0 {
			text += "-"
		}
		text += word[place : place+size]
		place += size
	}
	return text
}

// sizesUpTo returns all lists of at most some number of sizes from 0 to some greatest one, and of less than none.
func sizesUpTo(count int, greatest int64) [][]int64 {
	all, longest := [][]int64{nil}, [][]int64{nil}
	for range count {
		longer := [][]int64{}
		for _, begun := range longest {
			for size := int64(-1); size <= greatest; size++ {
				longer = append(longer, append(slices.Clone(begun), size))
			}
		}
		longest = longer
		all = append(all, longest...)
	}
	return all
}

// fitsSizes reports whether some sizes group so many symbols.
func fitsSizes(symbols int, sizes []int64) bool {
	sum := int64(0)
	for _, size := range sizes {
		if size < 1 || size > 20 {
			return false
		}
		sum += size
	}
	return len(sizes) >= 1 && len(sizes) <= 10 && sum == int64(symbols)
}
