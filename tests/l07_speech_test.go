package tests

import (
	"math"
	"math/big"
	"slices"
	"strings"
	"testing"

	"loop.example/g01130/impl"
)

func TestPromise8ExamplesOfSpeech(t *testing.T) {
	expect(t, say(impl.WordDistance("five", "nine")), `2 true`)
	expect(t, say(impl.GroupWord("AB12", []int64{1, 3})), `"A-B12" true`)
	expect(t, say(impl.UngroupWord("A-B12", []int64{1, 3})), `"AB12" true`)
	expect(t, say(impl.GroupWord("ab12", []int64{1, 3})), noText)
}

func TestPromise8SpeechesAreAsTheDocumentSays(t *testing.T) {
	for firsts := range 21 {
		for seconds := range 7 {
			p := speech(mostFirstLetters[:firsts], mostSecondLetters[:seconds])
			expect(t, say(p, impl.ValidSpeech(p)), say(p, firsts > 0 && seconds > 0))
		}
	}
	for _, letter := range strings.Split(allSmallLetters, "") {
		for _, other := range strings.Split(allSmallLetters, "") {
			expect(t, say(letter, other, impl.ValidSpeech(speech(letter, other))), say(letter, other, letter != other))
		}
		expectAll(t, `false`, say(impl.ValidSpeech(speech(letter+letter, "-"))), say(impl.ValidSpeech(speech("-", letter))))
	}
	for _, p := range []impl.Speech{speech("zyx", "cba"), speech("ai", "bd"), speech(reversed(mostFirstLetters), reversed(mostSecondLetters)), speech(allSmallLetters[6:], allSmallLetters[:6])} {
		expect(t, say(impl.ValidSpeech(p)), `true`)
	}
}

func TestPromise8InvalidSpeeches(t *testing.T) {
	for _, p := range invalidSpeeches() {
		if impl.ValidSpeech(p) {
			t.Errorf("%s is not valid", shortText(say(p)))
		}
		for syllables := range int64(10) {
			expectAll(t, noText, say(impl.SpeakNumber(p, 0, syllables)), say(impl.SpeakNumber(p, 1, syllables)))
		}
		texts := []string{"", "ba", "ba-ba"}
		if p.Firsts != "" && p.Seconds != "" {
			texts = append(texts, p.Firsts[:1]+p.Seconds[:1], p.Firsts[len(p.Firsts)-1:]+p.Seconds[len(p.Seconds)-1:])
		}
		for _, text := range texts {
			expect(t, say(impl.HearNumber(p, text)), noNumber)
		}
	}
}

// someSpeeches have few syllables, or their letters in an order of their own.
func someSpeeches() []impl.Speech {
	return []impl.Speech{
		speech("b", "a"), speech("z", "y"), speech("bd", "a"), speech("b", "ai"), speech("bd", "ai"), speech("db", "ia"), speech("ai", "bd"), speech("zbk", "ua"), speech("kz", "eao"),
		speech(mostFirstLetters, "a"), speech("b", mostSecondLetters), speech(mostFirstLetters, mostSecondLetters), speech(reversed(mostFirstLetters), "yae"),
	}
}

func TestPromise8NumbersAreSpokenInOrder(t *testing.T) {
	for _, p := range someSpeeches() {
		for syllables := 1; syllables <= 8; syllables++ {
			count := powerOf(int64(len(syllablesOf(p))), int64(syllables))
			if count.Cmp(big.NewInt(20000)) > 0 {
				break
			}
			texts := spokenTexts(p, syllables)
			for n, text := range texts {
				expect(t, say(impl.SpeakNumber(p, int64(n), int64(syllables))), say(text, true))
				expect(t, say(impl.HearNumber(p, text)), say(n, true))
			}
			for _, n := range []int64{math.MinInt64, -impl.MaxValue, -2, -1, int64(len(texts)), int64(len(texts)) + 1, impl.MaxValue, math.MaxInt64} {
				expect(t, say(impl.SpeakNumber(p, n, int64(syllables))), noText)
			}
		}
	}
}

// All numbers of letters are tried with all numbers of syllables, so that each power is just MaxValue or less, or greater.
func TestPromise8NumbersReachTheirPower(t *testing.T) {
	for firsts := 1; firsts <= 20; firsts++ {
		for seconds := 1; seconds <= 6; seconds++ {
			p := speech(mostFirstLetters[:firsts], mostSecondLetters[:seconds])
			all := syllablesOf(p)
			for syllables := range int64(10) {
				power := powerOf(int64(len(all)), syllables).Int64()
				least := strings.TrimSuffix(strings.Repeat(all[0]+"-", int(syllables)), "-")
				greatest := strings.TrimSuffix(strings.Repeat(all[len(all)-1]+"-", int(syllables)), "-")
				if isSpoken(p, syllables) {
					expect(t, say(impl.SpeakNumber(p, 0, syllables)), say(least, true))
					expect(t, say(impl.SpeakNumber(p, power-1, syllables)), say(greatest, true))
					expectAll(t, noText, say(impl.SpeakNumber(p, power, syllables)), say(impl.SpeakNumber(p, -1, syllables)))
					expect(t, say(impl.HearNumber(p, least)), `0 true`)
					expect(t, say(impl.HearNumber(p, greatest)), say(power-1, true))
				} else {
					expectAll(t, noText, say(impl.SpeakNumber(p, 0, syllables)), say(impl.SpeakNumber(p, 1, syllables)), say(impl.SpeakNumber(p, -1, syllables)))
					expectAll(t, noNumber, say(impl.HearNumber(p, least)), say(impl.HearNumber(p, greatest)))
				}
			}
		}
	}
}

func TestPromise8PowersNearToMaxValue(t *testing.T) {
	// 72 to the power of 8 is 722204136308736, and 75 to the power of 8 is 1001129150390625.
	below, above := speech(mostFirstLetters[:12], mostSecondLetters), speech(mostFirstLetters[:15], "aeiou")
	expect(t, say(impl.SpeakNumber(below, 722204136308735, 8)), `"py-py-py-py-py-py-py-py" true`)
	expect(t, say(impl.HearNumber(below, "py-py-py-py-py-py-py-py")), `722204136308735 true`)
	expect(t, say(impl.SpeakNumber(below, 722204136308736, 8)), noText)
	expectAll(t, noText, say(impl.SpeakNumber(above, 0, 8)), say(impl.SpeakNumber(above, 722204136308735, 8)))
	expect(t, say(impl.SpeakNumber(above, 13348388671874, 7)), `"su-su-su-su-su-su-su" true`)
	expect(t, say(impl.HearNumber(above, "ba-ba-ba-ba-ba-ba-ba-ba")), noNumber)
	// There are at most 120 syllables.
	most := speech(mostFirstLetters, mostSecondLetters)
	expect(t, say(impl.SpeakNumber(most, 358318079999999, 7)), `"zy-zy-zy-zy-zy-zy-zy" true`)
	expectAll(t, noText, say(impl.SpeakNumber(most, 358318080000000, 7)), say(impl.SpeakNumber(most, 0, 8)), say(impl.SpeakNumber(most, 1, 8)))
	expect(t, say(impl.HearNumber(most, "ba-ba-ba-ba-ba-ba-ba-ba")), noNumber)
}

func TestPromise8SyllablesHaveLimits(t *testing.T) {
	for _, p := range someSpeeches() {
		for _, syllables := range []int64{math.MinInt64, -8, -1, 0, 9, 10, 1000, impl.MaxValue, math.MaxInt64} {
			expectAll(t, noText, say(impl.SpeakNumber(p, 0, syllables)), say(impl.SpeakNumber(p, -1, syllables)), say(impl.SpeakNumber(p, 1, syllables)))
		}
	}
	// One syllable alone speaks just 0, as often as it is said.
	one := speech("b", "a")
	expect(t, say(impl.SpeakNumber(one, 0, 8)), `"ba-ba-ba-ba-ba-ba-ba-ba" true`)
	expect(t, say(impl.HearNumber(one, "ba-ba-ba-ba-ba-ba-ba-ba")), `0 true`)
	expect(t, say(impl.HearNumber(one, "ba-ba-ba-ba-ba-ba-ba-ba-ba")), noNumber)
	expect(t, say(impl.SpeakNumber(one, 1, 8)), noText)
}

func TestPromise8WhatIsSpokenIsHeard(t *testing.T) {
	number := numbersFrom(76)
	for _, p := range someSpeeches() {
		for syllables := int64(1); syllables <= 8; syllables++ {
			power := powerOf(int64(len(syllablesOf(p))), syllables).Int64()
			for i := 0; i < 20 && isSpoken(p, syllables); i++ {
				n := (number(1<<31)<<31 + number(1<<31)) % power
				spoken, ok := impl.SpeakNumber(p, n, syllables)
				expect(t, say(p, n, syllables, ok, heardNumber(p, spoken), strings.Count(spoken, "-")), say(p, n, syllables, true, n, syllables-1))
				expect(t, say(impl.HearNumber(p, spoken)), say(n, true))
			}
		}
	}
}

// Of all texts, just those that are spoken are heard.
func TestPromise8NothingElseIsHeard(t *testing.T) {
	for _, c := range []struct {
		p       impl.Speech
		letters string
		most    int
	}{
		{speech("b", "a"), "ba-", 8}, {speech("bd", "a"), "bda-", 6}, {speech("b", "ai"), "bai-", 6}, {speech("db", "ia"), "bdai-", 5}, {speech("bd", "a"), "bda-é A", 4},
	} {
		spoken := map[string]int{}
		for syllables := 1; syllables <= 3; syllables++ {
			for n, text := range spokenTexts(c.p, syllables) {
				spoken[text] = n
			}
		}
		for _, text := range stringsOf(strings.Split(c.letters, ""), c.most) {
			n, isIn := spoken[text]
			if got, ok := impl.HearNumber(c.p, text); ok != isIn || got != int64(n) {
				t.Fatalf("%v: %q is heard as %d %v", c.p, text, got, ok)
			}
		}
	}
}

func TestPromise8TextsThatAreNotHeard(t *testing.T) {
	p := speech("bd", "ai")
	for _, text := range []string{
		"", "-", "--", "b", "a", "ab", "bb", "aa", "baba", "bab", "-ba", "ba-", "-ba-", "ba--da", "--ba-da", "ba-da--", "ba-d", "b-da", "ba-a", "a-da", "ba-dai", "ba-ad",
		"bu", "ca", "ba-du", "ca-ba", "BA", "Ba", "bA", "ba_da", "ba da", "ba - da", " ba", "ba ", "ba\n", "ba,da", "é", "\xff", "b\xff", "\xffa", "ba-\xff\xff", "bé", "ba–da", "\x00\x00",
		"ba-ba-ba-ba-ba-ba-ba-ba-ba", "ba-ba-ba-ba-ba-ba-ba-ba-", "-ba-ba-ba-ba-ba-ba-ba-ba", "ba-ba-ba-ba-ba-ba-ba-bab", "ba-ba-ba-ba-ba-ba-ba-b",
		strings.Repeat("ba-", 100000) + "ba", strings.Repeat("-", 100000), strings.Repeat("b", 100000),
	} {
		expect(t, shortText(say(text))+say(impl.HearNumber(p, text)), shortText(say(text))+noNumber)
	}
	expect(t, say(impl.HearNumber(p, "di-di-di-di-di-di-di-di")), `65535 true`)
	expect(t, say(impl.HearNumber(p, "ba-ba-ba-ba-ba-ba-ba-bi")), `1 true`)
}

func TestPromise8DistancesAreThoseOfAllSteps(t *testing.T) {
	for _, texts := range [][]string{stringsOf([]string{"a", "z"}, 5), stringsOf([]string{"a", "b", "c"}, 3), stringsOf([]string{"f", "i", "v", "e"}, 2)} {
		for _, a := range texts {
			steps := editsFrom(a, texts)
			for _, b := range texts {
				expect(t, say(a, b)+say(impl.WordDistance(a, b)), say(a, b)+say(steps[b], true))
			}
		}
	}
}

func TestPromise8DistancesOfLongTexts(t *testing.T) {
	number := numbersFrom(77)
	texts := []string{
		"", "a", "z", "five", "nine", "zero", "seven", "eleven", strings.Repeat("a", 20), strings.Repeat("z", 20), strings.Repeat("az", 10), strings.Repeat("za", 10),
		allSmallLetters[:20], allSmallLetters[6:], allSmallLetters[1:20], allSmallLetters[10:20] + allSmallLetters[:10],
	}
	for range 20 {
		texts = append(texts, lettersOf(number, 2+number(3), 20), lettersOf(number, 26, 15+int(number(6))), lettersOf(number, 3, int(number(21))))
	}
	for _, a := range texts {
		book := newScriptBook(editLetters)
		for _, b := range texts {
			expect(t, say(a, b)+say(impl.WordDistance(a, b)), say(a, b)+say(costOf(book.least(a, b)), true))
		}
	}
}

// A swap is two steps.
func TestPromise8DistancesOfSomeTexts(t *testing.T) {
	for _, c := range []struct {
		a, b string
		want int64
	}{
		{"", "", 0}, {"", "a", 1}, {"", strings.Repeat("z", 20), 20}, {"five", "five", 0}, {"five", "fine", 1}, {"five", "fie", 1}, {"five", "fivee", 1}, {"ab", "ba", 2},
		{"abc", "cab", 2}, {"seven", "eleven", 2}, {"abcdef", "badcfe", 4}, {"abcdef", "azced", 3}, {"abcdefghijklmnopqrst", "bcdefghijklmnopqrstu", 2},
		{strings.Repeat("a", 20), strings.Repeat("z", 20), 20},
	} {
		expectAll(t, say(c.want, true), say(impl.WordDistance(c.a, c.b)), say(impl.WordDistance(c.b, c.a)))
	}
}

func TestPromise8TextsWithoutDistancesOfLetters(t *testing.T) {
	wrong := append([]string{strings.Repeat("a", 21), allSmallLetters[:21], allSmallLetters, strings.Repeat("a", 100000)}, textsThatAreNoLetters...)
	for _, text := range wrong {
		for _, other := range []string{"", "a", "five", text} {
			expectAll(t, noNumber, say(impl.WordDistance(text, other)), say(impl.WordDistance(other, text)))
		}
		expectAll(t, `false`, say(impl.IsLexicon([]string{text, "a"})), say(impl.IsLexicon([]string{"a", text})), say(impl.IsLexicon([]string{"a", "b", text})))
		expectAll(t, `0 0 0 false`, say(impl.LeastGap([]string{text, "a"})), say(impl.LeastGap([]string{"a", text, "b"})))
		for most := int64(0); most <= 20; most += 5 {
			expectAll(t, noNumber, say(impl.HearWord([]string{text, "a"}, "a", most)), say(impl.HearWord([]string{"a", "b", text}, "a", most)))
			expect(t, say(impl.HearWord([]string{"a", "b"}, text, most)), noNumber)
		}
	}
}

func TestPromise8LexiconsHaveDifferentWords(t *testing.T) {
	for words := range 18 {
		lexicon := lexiconOf(words)
		expect(t, say(words, impl.IsLexicon(lexicon)), say(words, words >= 2 && words <= 16))
		_, _, _, ok := impl.LeastGap(lexicon)
		_, heard := impl.HearWord(lexicon, strings.Repeat("a", 20), 0)
		expect(t, say(words, ok, heard), say(words, words >= 2 && words <= 16, words >= 2 && words <= 16))
	}
	full := lexiconOf(16)
	for i := range full {
		for k := range full {
			same := slices.Clone(full)
			same[i] = same[k]
			expect(t, say(i, k, impl.IsLexicon(same)), say(i, k, i == k))
		}
		for _, wrong := range []string{"", "A", strings.Repeat("q", 21), "q-", "\xff"} {
			other := slices.Clone(full)
			other[i] = wrong
			expectAll(t, `false`, say(impl.IsLexicon(other)))
			expect(t, say(impl.LeastGap(other)), `0 0 0 false`)
			expect(t, say(impl.HearWord(other, "q", 20)), noNumber)
		}
		other := slices.Clone(full)
		other[i] = strings.Repeat("q", 20)
		expect(t, say(impl.IsLexicon(other)), `true`)
	}
	for _, words := range [][]string{{"a", "b"}, {"a", "ab"}, {"ab", "a"}, {"abc", "a", "ab"}, {"a", "b", "ab", "ba"}, {"z", "a"}, {strings.Repeat("z", 20), "z"}} {
		expect(t, say(words, impl.IsLexicon(words)), say(words, true))
	}
	for _, words := range [][]string{nil, {}, {"a"}, {"a", "a"}, {"ab", "ab"}, {"", ""}, {"", "a"}, {"a", ""}, {"a", "b", "a"}, {"ab", "a", "ab"}, {"a", "ab", "abc", "ab"}, make([]string, 100000), slices.Repeat([]string{"a"}, 17)} {
		expect(t, say(impl.IsLexicon(words)), `false`)
		expect(t, say(impl.LeastGap(words)), `0 0 0 false`)
		for _, most := range []int64{0, 1, 20} {
			expectAll(t, noNumber, say(impl.HearWord(words, "a", most)), say(impl.HearWord(words, "", most)))
		}
	}
}

func TestPromise8LeastGapIsThatOfAllPairs(t *testing.T) {
	number := numbersFrom(78)
	for words := 2; words <= 16; words++ {
		for range 15 {
			lexicon := randomLexicon(number, 3+number(3), 3+int(number(18)), words)
			least, first, second := leastGapOf(newScriptBook(editLetters), lexicon)
			expect(t, say(lexicon)+say(impl.LeastGap(lexicon)), say(lexicon)+say(least, first, second, true))
		}
	}
}

func TestPromise8LeastGapHasTheLeastIndices(t *testing.T) {
	for _, c := range []struct {
		words []string
		want  string
	}{
		{[]string{"five", "nine", "zero"}, `2 0 1`},
		{[]string{"a", "b"}, `1 0 1`},
		{[]string{"a", "ab"}, `1 0 1`},
		// Ties in the second word, in the first one, and in both.
		{[]string{"aaa", "aab", "aba"}, `1 0 1`},
		{[]string{"aaa", "zzz", "aab", "aba"}, `1 0 2`},
		{[]string{"zzz", "aaa", "aab", "yyy", "yyz"}, `1 1 2`},
		{[]string{"aaa", "yyy", "yyz", "aab"}, `1 0 3`},
		{[]string{"aaa", "yyy", "yyz", "zyy"}, `1 1 2`},
		{[]string{"aaaa", "zzzz", "zzzy", "yyaa", "zyzz"}, `1 1 2`},
		{[]string{"aaaa", "zzzz", "bbaa", "zzbb", "zzzy"}, `1 1 4`},
		{[]string{strings.Repeat("a", 20), strings.Repeat("z", 20)}, `20 0 1`},
		{[]string{strings.Repeat("a", 20), strings.Repeat("z", 20), strings.Repeat("y", 20)}, `20 0 1`},
		{lexiconOf(16), `6 14 15`},
	} {
		expect(t, say(c.words)+say(impl.LeastGap(c.words)), say(c.words)+c.want+` true`)
	}
}

func TestPromise8HeardWordsAreTheOnlyOnesThatAreNear(t *testing.T) {
	number := numbersFrom(79)
	found := 0
	for words := 2; words <= 16; words++ {
		for range 12 {
			different, longest := 2+number(3), 4+int(number(17))
			lexicon := randomLexicon(number, different, longest, words)
			book := newScriptBook(editLetters)
			heard := []string{"", lexicon[0], lexicon[words-1], lexicon[0][1:], lexicon[1] + "z", lettersOf(number, different, longest), lettersOf(number, 26, 20)}
			for _, text := range heard {
				for most := range int64(21) {
					index, ok := heardWord(book, lexicon, text[:min(len(text), 20)], most)
					expect(t, say(lexicon, text, most)+say(impl.HearWord(lexicon, text[:min(len(text), 20)], most)), say(lexicon, text, most)+say(index, ok))
					if ok {
						found++
					}
				}
			}
		}
	}
	if found < 2000 {
		t.Errorf("just %d texts are heard as words", found)
	}
}

func TestPromise8HeardWordsOfSomeLexicons(t *testing.T) {
	numerals := []string{"five", "nine", "zero"}
	prefixes := []string{"abc", "a", "abcdef", "ab"}
	for _, c := range []struct {
		words []string
		heard string
		most  int64
		want  string
	}{
		{numerals, "five", 0, `0 true`}, {numerals, "nine", 0, `1 true`}, {numerals, "zero", 0, `2 true`}, {numerals, "fine", 0, noNumber},
		// One step from two words, or from one.
		{numerals, "fine", 1, noNumber}, {numerals, "fivee", 1, `0 true`}, {numerals, "vine", 1, `1 true`}, {numerals, "vine", 2, noNumber}, {numerals, "hero", 1, `2 true`},
		{numerals, "xxxx", 3, noNumber}, {numerals, "xxxx", 4, noNumber}, {numerals, "five", 1, `0 true`}, {numerals, "five", 2, noNumber}, {numerals, "five", 20, noNumber},
		{numerals, "", 3, noNumber}, {numerals, "", 4, noNumber}, {[]string{"aa", "bbb"}, "", 1, noNumber}, {[]string{"aa", "bbb"}, "", 2, `0 true`}, {[]string{"aa", "bbb"}, "", 3, noNumber},
		{prefixes, "abc", 0, `0 true`}, {prefixes, "a", 0, `1 true`}, {prefixes, "abcdef", 0, `2 true`}, {prefixes, "ab", 0, `3 true`}, {prefixes, "abcd", 0, noNumber},
		{prefixes, "abcd", 1, `0 true`}, {prefixes, "abcde", 1, `2 true`}, {prefixes, "ab", 1, noNumber}, {prefixes, "x", 0, noNumber}, {prefixes, "x", 1, `1 true`}, {prefixes, "", 1, `1 true`},
		{[]string{strings.Repeat("a", 20), "z"}, strings.Repeat("a", 20), 19, `0 true`}, {[]string{strings.Repeat("a", 20), "z"}, strings.Repeat("a", 20), 20, noNumber},
		{[]string{strings.Repeat("a", 20), "z"}, strings.Repeat("y", 20), 19, noNumber}, {lexiconOf(16), strings.Repeat("p", 5), 0, `15 true`}, {lexiconOf(16), strings.Repeat("a", 19), 1, `0 true`},
	} {
		expect(t, say(c.words, c.heard, c.most)+say(impl.HearWord(c.words, c.heard, c.most)), say(c.words, c.heard, c.most)+c.want)
		for _, most := range []int64{math.MinInt64, -20, -1, 21, 22, 1000, math.MaxInt64} {
			expect(t, say(impl.HearWord(c.words, c.heard, most)), noNumber)
		}
	}
}

// The index is that of the word, in whatever order the words stand.
func TestPromise8EachWordOfALexiconIsHeard(t *testing.T) {
	number := numbersFrom(80)
	for words := 2; words <= 16; words++ {
		lexicon := randomLexicon(number, 26, 20, words)
		least, _, _, _ := impl.LeastGap(lexicon)
		for index, word := range lexicon {
			expect(t, say(impl.HearWord(lexicon, word, 0)), say(index, true))
			expect(t, say(impl.HearWord(lexicon, word, least-1)), say(index, true))
		}
	}
}

func TestPromise8GroupsAreOfTheirSizes(t *testing.T) {
	for _, sizes := range sizesUpTo(4, 4) {
		for symbols := range 8 {
			word := longestWord[10 : 10+symbols]
			if fitsSizes(symbols, sizes) {
				text := marked(word, sizes)
				expect(t, say(impl.GroupWord(word, sizes)), say(text, true))
				expect(t, say(impl.UngroupWord(text, sizes)), say(word, true))
			} else {
				expectAll(t, noText, say(impl.GroupWord(word, sizes)), say(impl.UngroupWord(word, sizes)))
			}
		}
	}
}

// Of all texts, just those with all marks at their places are ungrouped.
func TestPromise8NothingElseIsUngrouped(t *testing.T) {
	for _, c := range []struct {
		letters string
		most    int
		sizes   [][]int64
	}{
		{"A-", 10, sizesUpTo(3, 3)}, {"0Z-", 6, sizesUpTo(3, 3)}, {"A-a é", 4, [][]int64{nil, {1}, {2}, {3}, {1, 1}, {1, 2}, {2, 1}, {0, 1}, {1, 0}}},
	} {
		for _, text := range stringsOf(strings.Split(c.letters, ""), c.most) {
			word := strings.ReplaceAll(text, "-", "")
			for _, sizes := range c.sizes {
				isGrouped := strings.Trim(word, "A0Z") == "" && fitsSizes(len(word), sizes) && marked(word, sizes) == text
				want := ""
				if isGrouped {
					want = word
				}
				if got, ok := impl.UngroupWord(text, sizes); ok != isGrouped || got != want {
					t.Fatalf("%q of the sizes %v is %q %v", text, sizes, got, ok)
				}
			}
		}
	}
}

func TestPromise8SizesHaveLimits(t *testing.T) {
	ones, twos := slices.Repeat([]int64{1}, 20), slices.Repeat([]int64{2}, 10)
	for count := range 21 {
		word, text := longestWord[:count], strings.Join(strings.Split(longestWord[:count], ""), "-")
		if count >= 1 && count <= 10 {
			expect(t, say(impl.GroupWord(word, ones[:count])), say(text, true))
			expect(t, say(impl.UngroupWord(text, ones[:count])), say(word, true))
		} else {
			expectAll(t, noText, say(impl.GroupWord(word, ones[:count])), say(impl.UngroupWord(text, ones[:count])))
		}
	}
	expect(t, say(impl.GroupWord(longestWord, twos)), `"01-23-45-67-89-AB-CD-EF-XY-Z0" true`)
	expect(t, say(impl.UngroupWord("01-23-45-67-89-AB-CD-EF-XY-Z0", twos)), say(longestWord, true))
	for size := range int64(23) {
		for symbols := range 21 {
			want := noText
			if size >= 1 && int(size) == symbols {
				want = say(longestWord[:symbols], true)
			}
			expectAll(t, want, say(impl.GroupWord(longestWord[:symbols], []int64{size})), say(impl.UngroupWord(longestWord[:symbols], []int64{size})))
		}
	}
	expect(t, say(impl.GroupWord(longestWord, []int64{1, 19})), say("0-"+longestWord[1:], true))
	expect(t, say(impl.GroupWord(longestWord, []int64{19, 1})), say(longestWord[:19]+"-0", true))
	for _, sizes := range [][]int64{
		nil, {}, {0}, {-1}, {21}, {20, 1}, {1, 20}, {10, 11}, {0, 20}, {20, 0}, {10, 0, 10}, {21, -1}, {-1, 21}, {10, -1, 11}, {19}, {10, 9}, {20, 20}, {math.MinInt64, 20}, {math.MaxInt64},
		{math.MaxInt64, math.MaxInt64, 22}, {math.MinInt64, math.MinInt64, 20}, append(slices.Clone(twos), 1), append(slices.Clone(twos[1:]), 1, 1), make([]int64, 100000),
	} {
		expectAll(t, noText, say(impl.GroupWord(longestWord, sizes)), say(impl.UngroupWord(longestWord, sizes)), say(impl.UngroupWord(longestWord[:10]+"-"+longestWord[10:], sizes)))
	}
}

func TestPromise8TextsThatAreNotGrouped(t *testing.T) {
	for _, text := range append([]string{"ab12", "aB12", "AB1a", "AB1é", "A-B12", "A-B1", ""}, textsThatAreNoWords...) {
		for _, sizes := range [][]int64{{1, 3}, {int64(len(text))}, {1, int64(len(text)) - 1}} {
			expect(t, shortText(say(text))+say(impl.GroupWord(text, sizes)), shortText(say(text))+noText)
		}
		expect(t, say(impl.UngroupWord(text, []int64{int64(len(text))})), noText)
	}
	for _, word := range []string{"A", "AB1", "AB123"} {
		expect(t, say(impl.GroupWord(word, []int64{1, 3})), noText)
	}
	for _, text := range []string{
		"", "-", "AB12", "AB-12", "AB1-2", "A-B-12", "A-B1-2", "A--B12", "-A-B12", "A-B12-", "-AB12", "AB12-", "A-B1", "A-B123", "A-b12", "a-B12", "A B12", "A_B12", "A-B12 ", " A-B12", "A-B1é", "A-B1\xff",
		"A–B12", "A\xffB12", "A-B12\n", "A-B12\x00", strings.Repeat("-", 100000), "A-B12" + strings.Repeat("-", 100000), strings.Repeat("A-", 100000),
	} {
		expect(t, shortText(say(text))+say(impl.UngroupWord(text, []int64{1, 3})), shortText(say(text))+noText)
	}
	expect(t, say(impl.UngroupWord("0-Z", []int64{1, 1})), `"0Z" true`)
	for _, symbol := range strings.Split(allSymbols, "") {
		expect(t, say(impl.GroupWord(symbol+symbol, []int64{1, 1})), say(symbol+"-"+symbol, true))
	}
}
