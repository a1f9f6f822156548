package tests

import (
	"slices"
	"strings"

	"loop.example/g01130/impl"
)

const (
	noText   = `"" false`
	noNumber = `0 false`
)

// longestWord has 20 symbols, and textsThatAreNoWords are none over any base.
var (
	longestWord         = "0123456789ABCDEFXYZ0"
	textsThatAreNoWords = []string{
		"a", "z", " ", "0 ", " 0", "-1", "+1", "0a", "=", "é", "\x00", "\xff", "0\xff", "\xc3\x28", "００", ":", "@", "[", "/",
		longestWord + "0", strings.Repeat("1", 21), strings.Repeat("0", 100000),
	}
)

// wordsUpTo returns all words with at most some number of symbols, in ascending order.
func wordsUpTo(base int64, most int) []string {
	words := []string{}
	for symbols := range most + 1 {
		words = append(words, wordsOver(base, symbols)...)
	}
	slices.Sort(words)
	return words
}

// randomText has symbols that look arbitrary, all of them of a source.
func randomText(number func(int64) int64, source string, length int) string {
	text := ""
	for range length {
		at := number(int64(len(source)))
		text += source[at : at+1]
	}
	return text
}

func randomWord(number func(int64) int64, base int64, symbols int) string {
	return randomText(number, allSymbols[:base], symbols)
}

// lettersFor returns the letters with which a script of two words can begin, and how many symbols each one goes over in both.
func lettersFor(a, b string) map[string][2]int {
	letters := map[string][2]int{}
	if a != "" {
		letters["D"] = [2]int{1, 0}
	}
	if b != "" {
		letters["I"] = [2]int{0, 1}
	}
	if a != "" && b != "" && a[0] == b[0] {
		letters["="] = [2]int{1, 1}
	}
	if a != "" && b != "" && a[0] != b[0] {
		letters["S"] = [2]int{1, 1}
	}
	if len(a) > 1 && len(b) > 1 && a[0] != a[1] && a[:2] == b[1:2]+b[:1] {
		letters["X"] = [2]int{2, 2}
	}
	return letters
}

// scriptsOf returns all scripts of two words.
func scriptsOf(a, b string) []string {
	if a == "" && b == "" {
		return []string{""}
	}
	scripts := []string{}
	for letter, over := range lettersFor(a, b) {
		for _, rest := range scriptsOf(a[over[0]:], b[over[1]:]) {
			scripts = append(scripts, letter+rest)
		}
	}
	return scripts
}

func costOf(script string) int64 {
	return int64(len(script) - strings.Count(script, "="))
}

// lesserScript takes "none" for no script.
func lesserScript(x, y string) string {
	if x == "none" || costOf(y) < costOf(x) || costOf(y) == costOf(x) && y < x {
		return y
	}
	return x
}

// leastScript goes through all scripts of two words that have only some letters.
func leastScript(letters, a, b string) string {
	least := "none"
	for _, script := range scriptsOf(a, b) {
		if strings.Trim(script, letters) == "" {
			least = lesserScript(least, script)
		}
	}
	return least
}

const (
	editLetters   = "=DIS"
	typingLetters = "=DISX"
)

// scriptBook knows the least scripts of the ends of words, so that it goes through those of long words as well.
type scriptBook struct {
	letters string
	known   map[[2]string]string
}

func newScriptBook(letters string) scriptBook {
	return scriptBook{letters, map[[2]string]string{{"", ""}: ""}}
}

func (s scriptBook) least(a, b string) string {
	pair := [2]string{a, b}
	if script, ok := s.known[pair]; ok {
		return script
	}
	least := "none"
	for letter, over := range lettersFor(a, b) {
		if strings.Contains(s.letters, letter) {
			least = lesserScript(least, letter+s.least(a[over[0]:], b[over[1]:]))
		}
	}
	s.known[pair] = least
	return least
}

// isWithout reports whether shorter is what is left of a word when one symbol is left out.
func isWithout(word, shorter string) bool {
	for place := range word {
		if word[:place]+word[place+1:] == shorter {
			return true
		}
	}
	return false
}

// isEdit reports whether one symbol left out, put in or changed makes w of v.
func isEdit(v, w string) bool {
	return isWithout(v, w) || isWithout(w, v) || len(v) == len(w) && placesApart(v, w) == 1
}

// editsFrom returns how many edits make each of some words of the first one, which must be enough words for all least ways.
func editsFrom(first string, words []string) map[string]int64 {
	edits := map[string]int64{first: 0}
	for reached := []string{first}; len(reached) > 0; reached = reached[1:] {
		for _, word := range words {
			if _, ok := edits[word]; !ok && isEdit(reached[0], word) {
				edits[word] = edits[reached[0]] + 1
				reached = append(reached, word)
			}
		}
	}
	return edits
}

// isMade reports whether one error of a kind makes a word of another one with as many symbols.
func isMade(kind int64, from, to string) bool {
	size := sizesOfKinds[kind]
	for place := 0; place+size <= len(from); place++ {
		behind := place + size
		if from[:place] == to[:place] && from[behind:] == to[behind:] && isError(kind, from[place:behind], to[place:behind]) {
			return true
		}
	}
	return false
}

// filtered returns the words for which a condition holds, in the same order.
func filtered(words []string, holds func(word string) bool) []string {
	return slices.DeleteFunc(slices.Clone(words), func(word string) bool { return !holds(word) })
}

// candidatesAmong returns the candidates for a word among the checked words, each with the least kind.
func candidatesAmong(checked []string, base int64, word string) []impl.Candidate {
	candidates := []impl.Candidate{}
	for _, one := range checked {
		for _, kind := range kindsFor(base) {
			if isMade(kind, one, word) {
				candidates = append(candidates, impl.Candidate{Word: one, Kind: kind})
				break
			}
		}
	}
	return candidates
}

// allErrors returns what errors of a kind make of a long word, with all that can stand in the stead of its symbols.
func allErrors(base, kind int64, word string) []string {
	wrong := []string{}
	for place := 0; place+sizesOfKinds[kind] <= len(word); place++ {
		wrong = append(wrong, errorsOf(base, kind, word, place)...)
	}
	slices.Sort(wrong)
	return slices.Compact(wrong)
}

var keypad = []string{"789", "456", "123", "0"}

// slowSteps looks both keys up on the keypad.
func slowSteps(a, b string) int64 {
	steps := int64(0)
	for place := range a {
		for row := range keypad {
			for otherRow := range keypad {
				column, otherColumn := strings.IndexByte(keypad[row], a[place]), strings.IndexByte(keypad[otherRow], b[place])
				if column >= 0 && otherColumn >= 0 {
					steps += int64(max(row-otherRow, otherRow-row) + max(column-otherColumn, otherColumn-column))
				}
			}
		}
	}
	return steps
}

// likeliest puts first, again and again, the least of the words with the fewest steps.
func likeliest(words []string, word string) []string {
	sorted := []string{}
	for steps := int64(0); len(sorted) < len(words); steps++ {
		sorted = append(sorted, filtered(words, func(one string) bool { return slowSteps(word, one) == steps })...)
	}
	return sorted
}
