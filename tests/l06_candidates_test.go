package tests

import (
	"math"
	"slices"
	"strings"
	"testing"

	"loop.example/g01130/impl"
)

func TestPromise7ExamplesOfCandidates(t *testing.T) {
	expect(t, say(impl.KeySteps("1", "5")), `2 true`)
	expect(t, say(impl.KeySteps("9", "0")), `5 true`)
	expect(t, say(impl.KeySteps("19", "50")), `7 true`)
}

func TestPromise7WrongWordsAreThoseOfAllWords(t *testing.T) {
	for _, c := range []struct {
		base int64
		most int
	}{{2, 5}, {3, 4}, {4, 3}, {9, 2}, {10, 3}, {11, 2}, {36, 1}} {
		for symbols := range c.most + 1 {
			words := wordsOver(c.base, symbols)
			for _, word := range words {
				for _, kind := range kindsFor(c.base) {
					wrong := filtered(words, func(one string) bool { return isMade(kind, word, one) })
					expect(t, say(word, kind)+say(impl.WrongWords(word, c.base, kind)), say(word, kind)+say(wrong, true))
				}
			}
		}
	}
}

func TestPromise7WrongWordsOfLongWords(t *testing.T) {
	number := numbersFrom(10)
	for _, base := range []int64{2, 10, 11, 36} {
		words := []string{strings.Repeat("0", 20), strings.Repeat("01", 10), strings.Repeat("1", 19), strings.Repeat("011", 6), "1010100110111011"}
		if base >= 10 {
			words = append(words, "12131415161718191", "20304050607080909080", "10111213002030405060", "2013201320")
		}
		for _, word := range append(words, randomWord(number, base, 20), randomWord(number, base, 8)) {
			for _, kind := range kindsFor(base) {
				if sizesOfKinds[kind] == 3 && base > 11 && len(word) > 10 {
					continue
				}
				expect(t, say(word, kind)+say(impl.WrongWords(word, base, kind)), say(word, kind)+say(allErrors(base, kind, word), true))
			}
		}
	}
}

func TestPromise7WrongWordsOfEachKind(t *testing.T) {
	for _, c := range []struct {
		word       string
		base, kind int64
		want       string
	}{
		{"", 2, impl.ErrSingle, `[]`}, {"0", 2, impl.ErrSingle, `["1"]`}, {"1", 4, impl.ErrSingle, `["0" "2" "3"]`}, {"10", 2, impl.ErrSingle, `["00" "11"]`},
		{"", 2, impl.ErrSwap, `[]`}, {"0", 2, impl.ErrSwap, `[]`}, {"00", 2, impl.ErrSwap, `[]`}, {"01", 2, impl.ErrSwap, `["10"]`}, {"130", 10, impl.ErrSwap, `["103" "310"]`},
		{"001", 2, impl.ErrSwap, `["010"]`}, {"010", 2, impl.ErrSwap, `["001" "100"]`},
		{"01", 2, impl.ErrJump, `[]`}, {"010", 2, impl.ErrJump, `[]`}, {"001", 2, impl.ErrJump, `["100"]`}, {"012", 3, impl.ErrJump, `["210"]`}, {"0011", 2, impl.ErrJump, `["0110" "1001"]`},
		{"0", 2, impl.ErrTwin, `[]`}, {"01", 2, impl.ErrTwin, `[]`}, {"11", 3, impl.ErrTwin, `["00" "22"]`}, {"000", 2, impl.ErrTwin, `["011" "110"]`},
		{"11", 3, impl.ErrJumpTwin, `[]`}, {"110", 3, impl.ErrJumpTwin, `[]`}, {"101", 3, impl.ErrJumpTwin, `["000" "202"]`}, {"111", 3, impl.ErrJumpTwin, `["010" "212"]`},
		{"1", 10, impl.ErrPhonetic, `[]`}, {"13", 10, impl.ErrPhonetic, `["30"]`}, {"30", 10, impl.ErrPhonetic, `["13"]`}, {"130", 10, impl.ErrPhonetic, `["113" "300"]`},
		{"10", 10, impl.ErrPhonetic, `[]`}, {"11", 10, impl.ErrPhonetic, `[]`}, {"00", 10, impl.ErrPhonetic, `[]`}, {"1A", 36, impl.ErrPhonetic, `[]`}, {"A0", 36, impl.ErrPhonetic, `[]`},
		{"119", 36, impl.ErrPhonetic, `["190"]`}, {"1290", 11, impl.ErrPhonetic, `["1219" "2090"]`},
	} {
		expect(t, say(c)+say(impl.WrongWords(c.word, c.base, c.kind)), say(c)+c.want+` true`)
	}
}

func TestPromise7WordsAndKindsThatAreNone(t *testing.T) {
	for _, base := range []int64{2, 9, 10, 36} {
		for _, kind := range append(unknownKinds, 7, -5, 1<<32) {
			expectAll(t, noList, say(impl.WrongWords("", base, kind)), say(impl.WrongWords("0", base, kind)), say(impl.WrongWords("0010", base, kind)))
		}
		for kind := range int64(6) {
			for _, text := range textsThatAreNoWords {
				expect(t, say(impl.WrongWords(text, base, kind)), noList)
			}
		}
	}
	for kind := range int64(6) {
		for _, base := range []int64{math.MinInt64, -10, -1, 0, 1, 37, 72, math.MaxInt64} {
			expectAll(t, noList, say(impl.WrongWords("", base, kind)), say(impl.WrongWords("0", base, kind)), say(impl.WrongWords("120", base, kind)))
		}
		for base := int64(10); base < 36; base++ {
			digit := allSymbols[base : base+1]
			expectAll(t, noList, say(impl.WrongWords(digit, base, kind)), say(impl.WrongWords("0011"+digit, base, kind)), say(impl.WrongWords(digit+"11", base, kind)))
		}
	}
	for base := int64(2); base <= 12; base++ {
		for _, word := range []string{"", "0", "10", "1010"} {
			_, ok := impl.WrongWords(word, base, impl.ErrPhonetic)
			expect(t, say(base, ok), say(base, base >= 10))
		}
	}
}

// someOf returns all of a list, or about most of a longer one.
func someOf(words []string, most int) []string {
	some := []string{}
	step := 1 + len(words)/most
	for i := 0; i < len(words); i += step {
		some = append(some, words[i])
	}
	return some
}

func TestPromise7CandidatesAreThoseOfAllCheckedWords(t *testing.T) {
	for _, c := range smallChains() {
		checked := checkedWords(c)
		for _, word := range someOf(wordsOver(c.Base, len(c.Places)), 300) {
			expect(t, say(word)+say(impl.CandidatesFor(c, word)), say(word)+say(candidatesAmong(checked, c.Base, word), true))
		}
		if t.Failed() {
			t.Fatalf("with the chain %v", c)
		}
	}
}

// longChains have words of many symbols.
func longChains() []impl.Chain {
	return []impl.Chain{
		parity(20), parity(19), oneState(2, 20), randomChain(11, 12, 3, 20, 3), randomChain(12, 2, 2, 20, 20), randomChain(13, 5, 10, 15, 4),
		sumChain(10, 15), sumChain(5, 20), sumChain(36, 9), randomChain(14, 7, 36, 9, 9), randomChain(15, 30, 11, 14, 20),
	}
}

func TestPromise7CandidatesOfLongWords(t *testing.T) {
	number := numbersFrom(11)
	for _, c := range longChains() {
		words := []string{strings.Repeat("0", len(c.Places)), randomWord(number, 2, len(c.Places)), randomWord(number, c.Base, len(c.Places))}
		if first, ok := impl.WordAt(c, 0); ok {
			words = append(words, first)
		}
		for _, word := range words {
			wrong := []string{}
			for _, kind := range kindsFor(c.Base) {
				if sizesOfKinds[kind] < 3 || c.Base < 36 {
					wrong = append(wrong, allErrors(c.Base, kind, word)...)
				}
			}
			// Of the kinds with three symbols, just those words are tried with the Base 36 that an error makes.
			for place := 0; place+3 <= len(word) && c.Base == 36; place++ {
				for _, outer := range strings.Split(allSymbols, "") {
					wrong = append(wrong, word[:place]+outer+word[place+1:place+2]+outer+word[place+3:])
				}
				wrong = append(wrong, word[:place]+word[place+2:place+3]+word[place+1:place+2]+word[place:place+1]+word[place+3:])
			}
			slices.Sort(wrong)
			checked := filtered(slices.Compact(wrong), func(one string) bool { return leads(c, one) == c.End })
			expect(t, say(word)+say(impl.CandidatesFor(c, word)), say(word)+say(candidatesAmong(checked, c.Base, word), true))
		}
	}
}

// The word itself is no candidate, also where each error makes a checked word.
func TestPromise7CandidatesHaveTheLeastKind(t *testing.T) {
	for _, c := range []struct {
		chain impl.Chain
		word  string
		want  string
	}{
		{parity(3), "100", `[{000 0} {101 0} {110 0}]`},
		{parity(3), "011", `[{000 3} {101 1} {110 2}]`},
		{parity(3), "000", `[{011 3} {101 4} {110 3}]`},
		{parity(1), "0", `[]`},
		{parity(1), "1", `[{0 0}]`},
		{oneState(2, 1), "0", `[{1 0}]`},
		{oneState(2, 2), "00", `[{01 0} {10 0} {11 3}]`},
		{oneState(2, 2), "01", `[{00 0} {10 1} {11 0}]`},
		{oneState(2, 3), "101", `[{000 4} {001 0} {011 1} {100 0} {110 1} {111 0}]`},
		{noWords(), "010", `[]`},
		{oneWord(), "1111", `[]`},
		{oneWord(), "1110", `[{1111 0}]`},
		{oneWord(), "0011", `[{1111 3}]`},
		{oneWord(), "0101", `[{1111 4}]`},
		{oneWord(), "0110", `[]`},
		{onlyWords(10, "20", "12", "90", "18"), "12", `[{18 0} {20 5}]`},
		{onlyWords(10, "20", "12", "90", "18"), "19", `[{12 0} {18 0} {90 5}]`},
		{onlyWords(10, "20", "12", "90", "18"), "22", `[{12 0} {20 0}]`},
		// Two errors of different kinds make the same word.
		{onlyWords(2, "1001"), "1111", `[{1001 3}]`},
		{onlyWords(11, "1A"), "A0", `[]`},
		{onlyWords(11, "19"), "90", `[{19 5}]`},
	} {
		expect(t, say(c.word)+say(impl.CandidatesFor(c.chain, c.word)), say(c.word)+c.want+` true`)
	}
	// Errors of sound need ten symbols.
	for base := int64(3); base <= 12; base++ {
		want := `[]`
		if base >= 10 {
			want = `[{20 5}]`
		}
		expect(t, say(base)+say(impl.CandidatesFor(onlyWords(base, "20"), "12")), say(base)+want+` true`)
	}
}

func TestPromise7CandidatesOfWordsAndChainsThatAreNone(t *testing.T) {
	for _, c := range invalidChains() {
		zeros := strings.Repeat("0", len(c.Places))
		for _, word := range []string{"", "0", zeros, zeros + "0", strings.TrimPrefix(zeros, "0")} {
			expectAll(t, noList, say(impl.CandidatesFor(c, word)), say(impl.CompletionsOf(c, word)), say(impl.ShorteningsOf(c, word)), say(impl.LikelySingles(c, word)))
		}
	}
	for _, c := range append(smallChains(), longChains()...) {
		zeros := strings.Repeat("0", len(c.Places))
		for _, word := range append([]string{"", zeros + "0", zeros[1:], zeros + "00"}, textsThatAreNoWords...) {
			expectAll(t, noList, say(impl.CandidatesFor(c, word)), say(impl.LikelySingles(c, word)))
		}
		for place := range zeros {
			for _, symbol := range []string{"a", " ", "=", "\xff", "é", symbolBehind(c.Base)} {
				wrong := zeros[:place] + symbol + zeros[place+1:]
				expectAll(t, noList, say(impl.CandidatesFor(c, wrong)), say(impl.LikelySingles(c, wrong)))
				expectAll(t, noList, say(impl.ShorteningsOf(c, wrong+"0")), say(impl.ShorteningsOf(c, "0"+wrong)))
				if place > 0 {
					expect(t, say(impl.CompletionsOf(c, wrong[1:])), noList)
				}
			}
		}
	}
}

// symbolBehind returns the symbol that follows those of a base, or what follows Z.
func symbolBehind(base int64) string {
	return (allSymbols + "[")[base : base+1]
}

func TestPromise7CompletionsAndShorteningsAreThoseOfAllCheckedWords(t *testing.T) {
	for _, c := range smallChains() {
		checked, places := checkedWords(c), len(c.Places)
		for _, word := range someOf(wordsOver(c.Base, places-1), 200) {
			completions := filtered(checked, func(one string) bool { return isWithout(one, word) })
			expect(t, say(word)+say(impl.CompletionsOf(c, word)), say(word)+say(completions, true))
		}
		for _, word := range someOf(wordsOver(c.Base, places+1), 200) {
			shortenings := filtered(checked, func(one string) bool { return isWithout(word, one) })
			expect(t, say(word)+say(impl.ShorteningsOf(c, word)), say(word)+say(shortenings, true))
		}
		if t.Failed() {
			t.Fatalf("with the chain %v", c)
		}
	}
}

func TestPromise7CompletionsAndShorteningsOfLongWords(t *testing.T) {
	number := numbersFrom(12)
	for _, c := range longChains() {
		places := len(c.Places)
		for range 3 {
			short, long := randomWord(number, c.Base, places-1), randomWord(number, c.Base, places+1)
			longer, shorter := []string{}, []string{}
			for place := range places {
				for d := range c.Base {
					longer = append(longer, short[:place]+allSymbols[d:d+1]+short[place:])
				}
			}
			for place := range places + 1 {
				shorter = append(shorter, long[:place]+long[place+1:])
			}
			slices.Sort(longer)
			slices.Sort(shorter)
			isChecked := func(one string) bool { return leads(c, one) == c.End }
			expect(t, say(short)+say(impl.CompletionsOf(c, short)), say(short)+say(filtered(slices.Compact(longer), isChecked), true))
			if places < impl.MaxWord {
				expect(t, say(long)+say(impl.ShorteningsOf(c, long)), say(long)+say(filtered(slices.Compact(shorter), isChecked), true))
			} else {
				expect(t, say(long)+say(impl.ShorteningsOf(c, long)), say(long)+noList)
			}
		}
	}
}

func TestPromise7CompletionsAndShorteningsOfSomeWords(t *testing.T) {
	for _, c := range []struct {
		chain impl.Chain
		word  string
		want  string
	}{
		{parity(1), "", `["0"]`},
		{oneState(2, 1), "", `["0" "1"]`},
		{remainders(2, 2, 0), "", `["0" "1"]`},
		{noWords(), "00", `[]`},
		{parity(2), "0", `["00"]`},
		{parity(2), "1", `["11"]`},
		{parity(3), "01", `["011" "101"]`},
		{parity(3), "00", `["000"]`},
		{oneWord(), "111", `["1111"]`},
		{oneWord(), "110", `[]`},
		{sumChain(10, 3), "19", `["019" "109" "190"]`},
		{sumChain(36, 2), "Z", `["1Z" "Z1"]`},
		{parity(20), strings.Repeat("0", 19), `["00000000000000000000"]`},
	} {
		expect(t, say(c.word)+say(impl.CompletionsOf(c.chain, c.word)), say(c.word)+c.want+` true`)
	}
	for _, c := range []struct {
		chain impl.Chain
		word  string
		want  string
	}{
		{parity(1), "01", `["0"]`},
		{parity(1), "11", `[]`},
		{oneState(2, 1), "10", `["0" "1"]`},
		{oneState(2, 1), "11", `["1"]`},
		{parity(3), "0110", `["011" "110"]`},
		{parity(3), "0100", `["000"]`},
		{oneWord(), "11111", `["1111"]`},
		{oneWord(), "11011", `["1111"]`},
		{oneWord(), "10011", `[]`},
		{parity(19), strings.Repeat("0", 20), `["0000000000000000000"]`},
	} {
		expect(t, say(c.word)+say(impl.ShorteningsOf(c.chain, c.word)), say(c.word)+c.want+` true`)
	}
}

func TestPromise7WordsOfOtherLengthsAreNeitherCompletedNorShortened(t *testing.T) {
	for _, c := range append(smallChains(), longChains()...) {
		for symbols := range impl.MaxWord + 3 {
			word := strings.Repeat("0", symbols)
			_, completes := impl.CompletionsOf(c, word)
			_, shortens := impl.ShorteningsOf(c, word)
			expect(t, say(symbols, completes, shortens), say(symbols, symbols == len(c.Places)-1, symbols == len(c.Places)+1 && symbols <= impl.MaxWord))
		}
		for _, text := range textsThatAreNoWords {
			expectAll(t, noList, say(impl.CompletionsOf(c, text)), say(impl.ShorteningsOf(c, text)))
		}
	}
}

func TestPromise7KeyStepsAreThoseOfTheKeypad(t *testing.T) {
	for _, a := range wordsOver(10, 1) {
		for _, b := range wordsOver(10, 1) {
			expect(t, say(a, b)+say(impl.KeySteps(a, b)), say(a, b)+say(slowSteps(a, b), true))
		}
	}
	for _, c := range []struct {
		a, b string
		want int64
	}{
		{"", "", 0}, {"7", "7", 0}, {"7", "9", 2}, {"7", "1", 2}, {"7", "0", 3}, {"9", "0", 5}, {"3", "0", 3}, {"2", "0", 2}, {"1", "0", 1}, {"5", "5", 0},
		{"19", "50", 7}, {"50", "19", 7}, {"0123456789", "9876543210", 26}, {strings.Repeat("9", 20), strings.Repeat("0", 20), 100},
	} {
		expect(t, say(c.a, c.b)+say(impl.KeySteps(c.a, c.b)), say(c.a, c.b)+say(c.want, true))
	}
	number := numbersFrom(13)
	for symbols := range 21 {
		for range 5 {
			a, b := randomWord(number, 10, symbols), randomWord(number, 10, symbols)
			expect(t, say(a, b)+say(impl.KeySteps(a, b)), say(a, b)+say(slowSteps(a, b), true))
		}
	}
}

func TestPromise7WordsWithoutKeySteps(t *testing.T) {
	for _, pair := range [][2]string{{"", "0"}, {"0", "00"}, {"12", "123"}, {longestWord[:9], longestWord[:10]}, {"", longestWord[:10]}} {
		expectAll(t, noNumber, say(impl.KeySteps(pair[0], pair[1])), say(impl.KeySteps(pair[1], pair[0])))
	}
	for _, text := range append(textsThatAreNoWords, "A", "Z", "0A", "A0", longestWord) {
		for _, other := range []string{"", "0", "00", text, strings.Repeat("0", len(text))} {
			expectAll(t, noNumber, say(impl.KeySteps(text, other)), say(impl.KeySteps(other, text)))
		}
	}
}

func TestPromise7LikelySinglesAreThoseOfAllCheckedWords(t *testing.T) {
	tried, reordered := 0, 0
	for _, c := range smallChains() {
		checked := checkedWords(c)
		for _, word := range someOf(wordsOver(c.Base, len(c.Places)), 200) {
			if c.Base != 10 {
				expect(t, say(impl.LikelySingles(c, word)), noList)
				continue
			}
			singles := filtered(checked, func(one string) bool { return placesApart(one, word) == 1 })
			sorted := likeliest(singles, word)
			expect(t, say(word)+say(impl.LikelySingles(c, word)), say(word)+say(sorted, true))
			tried++
			if !slices.Equal(singles, sorted) {
				reordered++
			}
		}
	}
	if tried < 1000 || reordered < 500 {
		t.Errorf("of %d lists just %d are not in ascending order", tried, reordered)
	}
}

func TestPromise7LikelySinglesOfSomeWords(t *testing.T) {
	for _, c := range []struct {
		chain impl.Chain
		word  string
		want  string
	}{
		{oneState(10, 1), "5", `["2" "4" "6" "8" "1" "3" "7" "9" "0"]`},
		{oneState(10, 1), "0", `["1" "2" "4" "3" "5" "7" "6" "8" "9"]`},
		{sumChain(10, 1), "0", `[]`},
		{sumChain(10, 1), "7", `["0"]`},
		{sumChain(10, 2), "12", `["19" "82"]`},
		{sumChain(10, 3), "111", `["118" "181" "811"]`},
		{onlyWords(10, "20", "12", "90", "18"), "10", `["20" "12" "18" "90"]`},
		// A swap is no single error.
		{onlyWords(10, "21"), "12", `[]`},
		// The word itself is none.
		{onlyWords(10, "20", "12", "90", "18"), "20", `["90"]`},
	} {
		expect(t, say(c.word)+say(impl.LikelySingles(c.chain, c.word)), say(c.word)+c.want+` true`)
	}
	for base := int64(2); base <= 36; base++ {
		_, ok := impl.LikelySingles(oneState(base, 3), "010")
		expect(t, say(base, ok), say(base, base == 10))
	}
	// There are fifteen places at most.
	zeros := strings.Repeat("0", 15)
	singles, ok := impl.LikelySingles(oneState(10, 15), zeros)
	expect(t, say(len(singles), ok), `135 true`)
	expect(t, say(singles), say(likeliest(allErrors(10, impl.ErrSingle, zeros), zeros)))
}

// The candidates by each kind of errors, and words of which this word is a candidate, tell the same as wrong words.
func TestPromise7CandidatesAreCheckedWordsOfWhichErrorsMakeTheWord(t *testing.T) {
	for _, c := range longChains() {
		number := numbersFrom(14)
		word := randomWord(number, c.Base, len(c.Places))
		candidates, ok := impl.CandidatesFor(c, word)
		if !ok {
			t.Errorf("no candidates of %v for %s", c, word)
		}
		for _, candidate := range candidates {
			if !impl.IsChecked(c, candidate.Word) || !isMade(candidate.Kind, candidate.Word, word) {
				t.Errorf("%v is no candidate of %v for %s", candidate, c, word)
			}
			back, _ := impl.WrongWords(candidate.Word, c.Base, candidate.Kind)
			if !slices.Contains(back, word) {
				t.Errorf("no error of the kind %d makes %s of %s", candidate.Kind, word, candidate.Word)
			}
		}
	}
}
