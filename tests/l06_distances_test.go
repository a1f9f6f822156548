package tests

import (
	"math"
	"slices"
	"strings"
	"testing"

	"loop.example/g01130/impl"
)

func TestPromise7ExamplesOfDistances(t *testing.T) {
	expect(t, say(impl.EditDistance("1234", "1324")), `2 true`)
	expect(t, say(impl.TypingDistance("1234", "1324")), `1 true`)
	expect(t, say(impl.ScriptOf("1234", "1324")), `"=X=" true`)
	expect(t, say(impl.ApplyScript("=X=", "1234", "1324")), `"1324" true`)
}

// pairsOfWords has all pairs of short words, and some of longer ones.
func pairsOfWords() [][2]string {
	pairs := [][2]string{}
	for _, words := range [][]string{wordsUpTo(2, 4), wordsUpTo(3, 3), {"", "Z", "ZZ", "Z9", "9Z", "Z9Z", "ABZ9", "BA9Z", "9ZAB"}} {
		for _, a := range words {
			for _, b := range words {
				pairs = append(pairs, [2]string{a, b})
			}
		}
	}
	number := numbersFrom(6)
	for range 60 {
		base := 2 + number(4)
		pairs = append(pairs, [2]string{randomWord(number, base, int(number(7))), randomWord(number, base, int(number(7)))})
	}
	return pairs
}

func TestPromise7DistancesAreThoseOfAllScripts(t *testing.T) {
	edits, typings := newScriptBook(editLetters), newScriptBook(typingLetters)
	for _, pair := range pairsOfWords() {
		a, b := pair[0], pair[1]
		edit, script := leastScript(editLetters, a, b), leastScript(typingLetters, a, b)
		expect(t, say(a, b)+say(impl.EditDistance(a, b)), say(a, b)+say(costOf(edit), true))
		expect(t, say(a, b)+say(impl.TypingDistance(a, b)), say(a, b)+say(costOf(script), true))
		expect(t, say(a, b)+say(impl.ScriptOf(a, b)), say(a, b)+say(script, true))
		expect(t, say(impl.ApplyScript(script, a, b)), say(b, true))
		// The book, which long words need, is right for short ones.
		expect(t, say(edits.least(a, b), typings.least(a, b)), say(edit, script))
	}
}

// Symbols that are left out, put in or changed one after another make all words that are near enough.
func TestPromise7EditDistancesAreThoseOfEdits(t *testing.T) {
	for _, words := range [][]string{wordsUpTo(2, 5), wordsUpTo(3, 3), wordsUpTo(4, 2)} {
		for _, a := range words {
			edits := editsFrom(a, words)
			for _, b := range words {
				expect(t, say(a, b)+say(impl.EditDistance(a, b)), say(a, b)+say(edits[b], true))
			}
		}
	}
}

func TestPromise7DistancesOfLongWords(t *testing.T) {
	tried := []string{
		"", "0", "Z", "10", "01", longestWord, longestWord[1:], longestWord[:19], longestWord[10:] + longestWord[:10],
		strings.Repeat("0", 20), strings.Repeat("1", 20), strings.Repeat("01", 10), strings.Repeat("10", 10), strings.Repeat("01", 9) + "0",
		strings.Repeat("012", 6) + "01", strings.Repeat("102", 6) + "10", strings.Repeat("0110", 5), strings.Repeat("0", 10) + strings.Repeat("1", 10),
	}
	number := numbersFrom(7)
	for range 12 {
		tried = append(tried, randomWord(number, 2+number(2), 20), randomWord(number, 36, 20), randomWord(number, 3, 12+int(number(9))))
	}
	for _, a := range tried {
		edits, typings := newScriptBook(editLetters), newScriptBook(typingLetters)
		for _, b := range tried {
			edit, script := edits.least(a, b), typings.least(a, b)
			expect(t, say(impl.EditDistance(a, b)), say(costOf(edit), true))
			expect(t, say(impl.TypingDistance(a, b)), say(costOf(script), true))
			expect(t, say(impl.ScriptOf(a, b)), say(script, true))
			expect(t, say(impl.ApplyScript(script, a, b)), say(b, true))
		}
	}
}

func TestPromise7ScriptsOfSomeWords(t *testing.T) {
	for _, c := range []struct{ a, b, edit, typing, script string }{
		{"", "", `0`, `0`, ``},
		{"", "01", `2`, `2`, `II`},
		{"01", "", `2`, `2`, `DD`},
		{"0", "0", `0`, `0`, `=`},
		{"0", "1", `1`, `1`, `S`},
		{"00", "00", `0`, `0`, `==`},
		{"01", "10", `2`, `1`, `X`},
		{"00", "01", `1`, `1`, `=S`},
		{"00", "11", `2`, `2`, `SS`},
		{"012", "210", `2`, `2`, `S=S`},
		{"0123", "1032", `3`, `2`, `XX`},
		{"0101", "1010", `2`, `2`, `D===I`},
		{"12", "21A", `2`, `2`, `I=S`},
		{"000", "00", `1`, `1`, `==D`},
		{"00", "000", `1`, `1`, `==I`},
		{"0010", "010", `1`, `1`, `=D==`},
		// An exchange and a symbol put in between would be enough, but what an exchange goes over is not touched again.
		{"01", "120", `3`, `3`, `D=II`},
		{"10", "021", `3`, `3`, `D=II`},
		{"0011", "1100", `4`, `3`, `SXS`},
	} {
		expect(t, say(impl.EditDistance(c.a, c.b)), c.edit+` true`)
		expect(t, say(impl.TypingDistance(c.a, c.b)), c.typing+` true`)
		expect(t, say(impl.ScriptOf(c.a, c.b)), say(c.script, true))
	}
}

// stringsOf returns all strings of some letters with at most some length.
func stringsOf(letters []string, most int) []string {
	all, longest := []string{""}, []string{""}
	for range most {
		longer := []string{}
		for _, begun := range longest {
			for _, letter := range letters {
				longer = append(longer, begun+letter)
			}
		}
		longest = longer
		all = append(all, longest...)
	}
	return all
}

// Of all strings of letters, just the scripts make a word, and this is the second one.
func TestPromise7ScriptsAreThoseThatGoOverBothWords(t *testing.T) {
	for _, c := range []struct {
		words, scripts []string
	}{
		{wordsUpTo(2, 3), stringsOf(strings.Split("=DISX", ""), 6)},
		{wordsUpTo(3, 2), stringsOf(strings.Split("=DISXdx é", ""), 4)},
	} {
		for _, a := range c.words {
			for _, b := range c.words {
				scripts := map[string]bool{}
				for _, script := range scriptsOf(a, b) {
					scripts[script] = true
				}
				for _, script := range c.scripts {
					made, ok := impl.ApplyScript(script, a, b)
					if ok != scripts[script] || ok && made != b || !ok && made != "" {
						t.Fatalf("%q of %q and %q: %q %v", script, a, b, made, ok)
					}
				}
			}
		}
	}
}

func TestPromise7ScriptsLetterByLetter(t *testing.T) {
	for _, c := range []struct{ script, a, b string }{
		{"", "", ""}, {"=", "Z", "Z"}, {"D", "0", ""}, {"I", "", "0"}, {"S", "0", "1"}, {"X", "01", "10"},
		{"DI", "0", "0"}, {"ID", "0", "0"}, {"DI", "0", "1"}, {"DDII", "01", "01"}, {"SS", "01", "10"}, {"D=I", "01", "10"},
		{"=X=", "1234", "1324"}, {"=SS=", "1234", "1324"}, {"I=S", "12", "21A"}, {"XX", "0123", "1032"}, {"SXS", "0120", "1211"},
		{strings.Repeat("D", 20) + strings.Repeat("I", 20), longestWord, longestWord}, {strings.Repeat("=", 20), longestWord, longestWord},
		{strings.Repeat("X", 10), strings.Repeat("01", 10), strings.Repeat("10", 10)},
	} {
		expect(t, say(impl.ApplyScript(c.script, c.a, c.b)), say(c.b, true))
	}
	for _, c := range []struct{ script, a, b string }{
		// These end too early in one word or in both.
		{"", "0", ""}, {"", "", "0"}, {"", "0", "0"}, {"=", "00", "00"}, {"=", "00", "0"}, {"=", "0", "00"}, {"D", "0", "0"}, {"I", "0", "0"}, {"X", "010", "10"},
		{"X", "01", "100"}, {"=X", "1234", "1324"}, {strings.Repeat("=", 19), longestWord, longestWord},
		// These end too late.
		{"=", "", ""}, {"D", "", ""}, {"I", "", ""}, {"S", "", ""}, {"X", "", ""}, {"==", "0", "0"}, {"=D", "0", "0"}, {"=I", "0", "0"},
		{"S", "0", ""}, {"S", "", "0"}, {"=", "0", ""}, {"=", "", "0"}, {"X", "0", "1"}, {"X", "01", "1"}, {"X", "0", "10"}, {"=X=D", "1234", "1324"},
		{strings.Repeat("=", 21), longestWord, longestWord}, {strings.Repeat("=", 100000), longestWord, longestWord},
		// These go over symbols that are not as their letters tell.
		{"=", "0", "1"}, {"S", "0", "0"}, {"====", "1234", "1324"}, {"=SSS", "1234", "1324"}, {"SSS=", "1234", "1324"}, {"X==", "1234", "1324"},
		{"X", "00", "00"}, {"X", "01", "01"}, {"X", "01", "00"}, {"X", "01", "11"}, {"X", "00", "01"}, {"X", "01", "20"}, {"X", "01", "12"}, {"X", "01", "23"},
		// These have other letters.
		{"s", "0", "1"}, {"x", "01", "10"}, {"d", "0", ""}, {"i", "", "0"}, {"-", "0", "0"}, {"=\x00", "0", "0"}, {" =", "0", "0"}, {"=\n", "0", "0"},
		{"M", "0", "0"}, {"＝", "0", "0"}, {"\xff", "0", "0"}, {"\xff", "", ""}, {"é", "", ""}, {"0", "0", "0"},
	} {
		expect(t, say(c)+say(impl.ApplyScript(c.script, c.a, c.b)), say(c)+noText)
	}
}

func TestPromise7TextsWithoutDistances(t *testing.T) {
	for _, text := range textsThatAreNoWords {
		for _, word := range []string{"", "0", text} {
			expectAll(t, noNumber, say(impl.EditDistance(text, word)), say(impl.EditDistance(word, text)))
			expectAll(t, noNumber, say(impl.TypingDistance(text, word)), say(impl.TypingDistance(word, text)))
			expectAll(t, noText, say(impl.ScriptOf(text, word)), say(impl.ScriptOf(word, text)))
			expectAll(t, noText, say(impl.ApplyScript("", text, word)), say(impl.ApplyScript("", word, text)))
		}
		same := strings.Repeat("=", len(text))
		more := strings.Repeat("D", len(text))
		expectAll(t, noText, say(impl.ApplyScript(same, text, text)), say(impl.ApplyScript(more, text, "")))
		expect(t, say(impl.ApplyScript(strings.Repeat("I", len(text)), "", text)), noText)
	}
}

// nearTo returns those of some words for which the book has a script with one letter other than =.
func nearTo(book scriptBook, word string, words []string) []string {
	return filtered(words, func(one string) bool { return costOf(book.least(word, one)) == 1 })
}

func TestPromise7NearWordsAreThoseOfAllWords(t *testing.T) {
	for _, c := range []struct {
		base int64
		most int
	}{{2, 5}, {3, 3}, {4, 2}, {10, 1}, {36, 1}} {
		book := newScriptBook(typingLetters)
		words := wordsUpTo(c.base, c.most+1)
		for _, word := range wordsUpTo(c.base, c.most) {
			expect(t, say(impl.NearWords(word, c.base)), say(nearTo(book, word, words), true))
		}
	}
	// Words two symbols longer are not near.
	book, words := newScriptBook(typingLetters), wordsUpTo(2, 6)
	for _, word := range wordsUpTo(2, 4) {
		expect(t, say(impl.NearWords(word, 2)), say(nearTo(book, word, words), true))
	}
}

// runsOf counts the parts of equal symbols of a word.
func runsOf(word string) int {
	runs := 0
	for place := range word {
		if place == 0 || word[place] != word[place-1] {
			runs++
		}
	}
	return runs
}

func TestPromise7NearWordsOfLongWords(t *testing.T) {
	number := numbersFrom(8)
	for _, base := range []int64{2, 3, 10, 35, 36} {
		words := []string{strings.Repeat("0", 12), strings.Repeat("01", 6), strings.Repeat("001", 4), strings.Repeat("0", 11), "1"}
		for symbols := range 13 {
			words = append(words, randomWord(number, base, symbols))
		}
		for _, word := range words {
			near, ok := impl.NearWords(word, base)
			book, runs, symbols := newScriptBook(typingLetters), runsOf(word), len(word)
			// To leave out any symbol of a run makes the same word, and so does a symbol that is put in beside an equal one.
			count := runs + symbols*int(base-1) + 1 + (symbols+1)*int(base-1) + max(runs-1, 0)
			expect(t, say(word, base, len(near), ok), say(word, base, count, true))
			if !slices.IsSorted(near) || len(slices.Compact(slices.Clone(near))) != count {
				t.Errorf("the words near %s are %q", word, near)
			}
			for _, one := range near {
				if !impl.IsWordOf(one, base) || costOf(book.least(word, one)) != 1 {
					t.Errorf("%q over %d is not near %q", one, base, word)
				}
			}
		}
	}
}

func TestPromise7BasesOfNearWords(t *testing.T) {
	expect(t, say(impl.NearWords("", 2)), `["0" "1"] true`)
	expect(t, say(impl.NearWords("0", 2)), `["" "00" "01" "1" "10"] true`)
	expect(t, say(impl.NearWords("00", 2)), `["0" "000" "001" "01" "010" "10" "100"] true`)
	expect(t, say(impl.NearWords("", 36)), say(strings.Split(allSymbols, ""), true))
	for _, base := range []int64{math.MinInt64, -36, -2, -1, 0, 1, 37, 72, math.MaxInt64} {
		expectAll(t, noList, say(impl.NearWords("", base)), say(impl.NearWords("0", base)), say(impl.NearWords("01", base)))
	}
	for base := int64(2); base < 36; base++ {
		digit := allSymbols[base : base+1]
		expectAll(t, noList, say(impl.NearWords(digit, base)), say(impl.NearWords("01"+digit, base)), say(impl.NearWords(digit+"01", base)))
		near, ok := impl.NearWords(digit, base+1)
		expect(t, say(len(near), ok), say(1+base+1+2*base, true))
	}
	for _, base := range []int64{2, 10, 36} {
		for _, text := range append(textsThatAreNoWords, strings.Repeat("0", 13), strings.Repeat("01", 10)) {
			expect(t, say(impl.NearWords(text, base)), noList)
		}
		_, ok := impl.NearWords(strings.Repeat("0", 12), base)
		expect(t, say(ok), `true`)
	}
}

// leastOf goes through all pairs of a list.
func leastOf(book scriptBook, words []string) int64 {
	least := int64(math.MaxInt64)
	for i, a := range words {
		for _, b := range words[i+1:] {
			least = min(least, costOf(book.least(a, b)))
		}
	}
	return least
}

func TestPromise7LeastTypingIsThatOfAllPairs(t *testing.T) {
	book, number := newScriptBook(typingLetters), numbersFrom(9)
	for _, words := range [][]string{
		{"", ""}, {"", "0"}, {"0", ""}, {"0", "0"}, {"01", "10"}, {"10", "01", "10"}, {"000", "011", "0111"}, {"Z", "AAAA", "0123456"},
		{"01", "22", "33", "44", "10"}, {"222", "01", "333", "10", "444"}, {"222", "333", "444", "01", "10"},
		{strings.Repeat("0", 12), strings.Repeat("1", 12)}, {"", strings.Repeat("1", 12)}, {strings.Repeat("ZY", 6), strings.Repeat("YZ", 6)},
		wordsUpTo(2, 3), wordsOver(3, 3), {"000", "111", "222", "ZZZ"},
	} {
		expect(t, say(words)+say(impl.LeastTyping(words)), say(words)+say(leastOf(book, words), true))
	}
	for range 200 {
		words := []string{}
		for range 2 + number(6) {
			words = append(words, randomWord(number, 2+number(35), int(number(13))))
		}
		expect(t, say(words)+say(impl.LeastTyping(words)), say(words)+say(leastOf(newScriptBook(typingLetters), words), true))
	}
}

func TestPromise7ListsOfLeastTyping(t *testing.T) {
	expectAll(t, noNumber, say(impl.LeastTyping(nil)), say(impl.LeastTyping([]string{})), say(impl.LeastTyping([]string{""})), say(impl.LeastTyping([]string{"0"})))
	// Any two of these words differ in their last three symbols, or in the nine before them, or in all.
	words := []string{}
	for n := range 101 {
		words = append(words, strings.Repeat(allSymbols[n%10:n%10+1], 9)+strings.Repeat(allSymbols[10+n/10:11+n/10], 3))
	}
	expect(t, say(impl.LeastTyping(words[:100])), `3 true`)
	expect(t, say(impl.LeastTyping(append(words[:99:99], words[0]))), `0 true`)
	expectAll(t, noNumber, say(impl.LeastTyping(words)), say(impl.LeastTyping(slices.Repeat([]string{"0"}, 101))), say(impl.LeastTyping(make([]string, 1000))))
	expect(t, say(impl.LeastTyping(make([]string, 100))), `0 true`)
	for _, text := range append(textsThatAreNoWords, strings.Repeat("0", 13), strings.Repeat("01", 10)) {
		for place := range 4 {
			wrong := []string{"01", "23", "01", "23"}
			wrong[place] = text
			expect(t, say(impl.LeastTyping(wrong)), noNumber)
		}
		expectAll(t, noNumber, say(impl.LeastTyping([]string{text, text})), say(impl.LeastTyping(append(words[:99:99], text))))
	}
}
