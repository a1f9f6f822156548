package tests

import (
	"math"
	"strings"
	"testing"

	"loop.example/g01130/impl"
)

var unknownKinds = []int64{math.MinInt64, -1, 6, math.MaxInt64}

// expectReport compares all that is told of the errors of a kind with what going through all of them tells.
func expectReport(t *testing.T, c impl.Chain, kind int64) {
	t.Helper()
	report := reportOf(c, kind)
	for place, undetected := range report.undetectedAt {
		expect(t, say(impl.UndetectedAt(c, kind, int64(place))), say(undetected, report.allAt[place], true))
	}
	for _, place := range []int64{math.MinInt64, -1, int64(len(report.allAt)), int64(len(c.Places)), math.MaxInt64} {
		expect(t, say(impl.UndetectedAt(c, kind, place)), `0 0 false`)
	}
	expect(t, say(impl.UndetectedIn(c, kind)), say(report.undetected, report.all, true))
	expect(t, say(impl.FirstUndetected(c, kind)), say(report.first, report.least, report.first != ""))
	expect(t, say(impl.IsCaught(c, kind)), say(report.undetected == 0))
}

func TestPromise3CountsAreThoseOfAllErrors(t *testing.T) {
	for _, c := range smallChains() {
		for kind := range int64(6) {
			if kind == impl.ErrPhonetic && c.Base < 10 {
				continue
			}
			expectReport(t, c, kind)
		}
		if t.Failed() {
			t.Fatalf("with the chain %v", c)
		}
	}
}

func TestPromise3KindsThatAreNone(t *testing.T) {
	for _, c := range []impl.Chain{parity(3), sumChain(10, 3), oneState(36, 9), noWords()} {
		for _, kind := range unknownKinds {
			expectAll(t, `0 0 false`, say(impl.UndetectedAt(c, kind, 0)), say(impl.UndetectedIn(c, kind)))
			expect(t, say(impl.FirstUndetected(c, kind)), `"" "" false`)
			expect(t, say(impl.IsCaught(c, kind)), `false`)
		}
	}
}

func TestPromise3PhoneticErrorsNeedTenSymbols(t *testing.T) {
	for base := int64(2); base <= 12; base++ {
		c := sumChain(base, 2)
		if base < 10 {
			expectAll(t, `0 0 false`, say(impl.UndetectedAt(c, impl.ErrPhonetic, 0)), say(impl.UndetectedIn(c, impl.ErrPhonetic)))
			expectAll(t, `"" "" false`, say(impl.FirstUndetected(c, impl.ErrPhonetic)), say(impl.FirstUndetected(oneState(base, 2), impl.ErrPhonetic)))
			expectAll(t, `false`, say(impl.IsCaught(c, impl.ErrPhonetic)), say(impl.IsCaught(noWords(), impl.ErrPhonetic)))
			continue
		}
		expect(t, say(impl.UndetectedIn(oneState(base, 2), impl.ErrPhonetic)), `16 16 true`)
		expect(t, say(impl.FirstUndetected(oneState(base, 2), impl.ErrPhonetic)), `"12" "20" true`)
		expect(t, say(impl.IsCaught(c, impl.ErrPhonetic)), `true`)
	}
	expect(t, say(impl.FirstUndetected(onlyWords(10, "118", "180"), impl.ErrPhonetic)), `"118" "180" true`)
	expect(t, say(impl.FirstUndetected(onlyWords(10, "90", "19"), impl.ErrPhonetic)), `"19" "90" true`)
	// 11 and 10 are no sound alike, and A is no digit from 2 to 9.
	expect(t, say(impl.UndetectedIn(onlyWords(11, "11", "10"), impl.ErrPhonetic)), `0 0 true`)
	expect(t, say(impl.UndetectedIn(onlyWords(11, "A0", "1A"), impl.ErrPhonetic)), `0 0 true`)
}

// An error is possible where all its symbols have a place, at the first place as well as at the last one of these.
func TestPromise3PlacesOfErrors(t *testing.T) {
	for kind, size := range sizesOfKinds {
		kind := int64(kind)
		for places := int64(1); places <= 5; places++ {
			c := oneState(10, places)
			for place := range places + 2 {
				undetected, all, ok := impl.UndetectedAt(c, kind, place)
				possible := place+int64(size) <= places
				if ok != possible || undetected != all || (all > 0) != possible {
					t.Errorf("kind %d at %d of %d places: %d %d %v", kind, place, places, undetected, all, ok)
				}
			}
			caught := places < int64(size)
			expect(t, say(impl.IsCaught(c, kind)), say(caught))
			if caught {
				expect(t, say(impl.UndetectedIn(c, kind)), `0 0 true`)
				expect(t, say(impl.FirstUndetected(c, kind)), `"" "" false`)
			}
		}
	}
}

// The first error of two words that differ at the last places only.
func TestPromise3ErrorsAtTheLastPlaces(t *testing.T) {
	for _, pair := range []struct {
		kind        int64
		first, last string
	}{
		{impl.ErrSingle, "000", "003"}, {impl.ErrSwap, "012", "021"}, {impl.ErrJump, "0123", "0321"},
		{impl.ErrTwin, "022", "033"}, {impl.ErrJumpTwin, "0121", "0323"}, {impl.ErrPhonetic, "512", "520"},
	} {
		c := onlyWords(10, pair.last, pair.first)
		size := sizesOfKinds[pair.kind]
		place := int64(len(pair.first) - size)
		expect(t, say(impl.FirstUndetected(c, pair.kind)), say(pair.first, pair.last, true))
		expect(t, say(impl.CountWords(c)), `2 true`)
		expect(t, say(impl.LeastDistance(c)), say(distanceOf([]string{pair.first, pair.last}), true))
		_, _, ok := impl.UndetectedAt(c, pair.kind, place+1)
		undetected, _, here := impl.UndetectedAt(c, pair.kind, place)
		expect(t, say(undetected, here, ok), `2 true false`)
		expect(t, say(impl.IsCaught(c, pair.kind)), `false`)
	}
}

func TestPromise3TheLeastWordIsToldWithTheLeastOne(t *testing.T) {
	// 20 becomes 29 by an error at the last place, and 10 by one at the first; 10 becomes 20 alone.
	expect(t, say(impl.FirstUndetected(onlyWords(10, "20", "10", "29"), impl.ErrSingle)), `"10" "20" true`)
	expect(t, say(impl.FirstUndetected(onlyWords(10, "55", "15", "50", "52"), impl.ErrSingle)), `"15" "55" true`)
	expect(t, say(impl.FirstUndetected(onlyWords(10, "15", "55", "16", "12"), impl.ErrSingle)), `"12" "15" true`)
	// The errors at later places make lesser words than the one at the first place, and the other way round.
	expect(t, say(impl.FirstUndetected(onlyWords(3, "012", "021", "102"), impl.ErrSwap)), `"012" "021" true`)
	expect(t, say(impl.FirstUndetected(onlyWords(3, "121", "211", "112"), impl.ErrSwap)), `"112" "121" true`)
	expect(t, say(impl.FirstUndetected(onlyWords(3, "000", "110", "022"), impl.ErrTwin)), `"000" "022" true`)
	expect(t, say(impl.FirstUndetected(onlyWords(4, "1101", "2201", "1331"), impl.ErrTwin)), `"1101" "2201" true`)
	// The least word has no undetected error.
	expect(t, say(impl.FirstUndetected(onlyWords(4, "000", "111", "333", "331"), impl.ErrSingle)), `"331" "333" true`)
	expect(t, say(impl.FirstUndetected(onlyWords(4, "0000", "2131", "2323", "3121"), impl.ErrJump)), `"2131" "3121" true`)
}

func TestPromise3ErrorsOfGreatChains(t *testing.T) {
	c := sumChain(10, 15)
	// 1/10 of the 10^15 words are checked; a swap, and a jump, keeps each sum, and a twin does if the symbols are 5 apart.
	words := int64(100000000000000)
	expect(t, say(impl.UndetectedIn(c, impl.ErrSingle)), say(0, words*15*9, true))
	expect(t, say(impl.UndetectedIn(c, impl.ErrSwap)), say(words/10*9*14, words/10*9*14, true))
	expect(t, say(impl.UndetectedIn(c, impl.ErrJump)), say(words/10*9*13, words/10*9*13, true))
	expect(t, say(impl.UndetectedIn(c, impl.ErrTwin)), say(words/10*14, words/10*9*14, true))
	expect(t, say(impl.UndetectedIn(c, impl.ErrJumpTwin)), say(words/10*13, words/10*9*13, true))
	expect(t, say(impl.UndetectedIn(c, impl.ErrPhonetic)), say(0, words/100*16*14, true))
	expect(t, say(impl.UndetectedAt(c, impl.ErrSwap, 13)), say(words/10*9, words/10*9, true))
	expect(t, say(impl.UndetectedAt(c, impl.ErrSwap, 14)), `0 0 false`)
	expect(t, say(impl.FirstUndetected(c, impl.ErrSwap)), `"000000000000019" "000000000000091" true`)
	expect(t, say(impl.FirstUndetected(c, impl.ErrJump)), `"000000000000019" "000000000000910" true`)
	expect(t, say(impl.FirstUndetected(c, impl.ErrTwin)), `"000000000000000" "000000000000055" true`)
	expect(t, say(impl.FirstUndetected(c, impl.ErrJumpTwin)), `"000000000000000" "000000000000505" true`)
	expect(t, say(impl.FirstUndetected(c, impl.ErrPhonetic)), `"" "" false`)
	expect(t, say(impl.LeastDistance(c)), `2 true`)
}

func TestPromise3ErrorsOfChainsThatCheckAllWords(t *testing.T) {
	wide, words := oneState(36, 9), int64(101559956668416)
	expect(t, say(impl.UndetectedIn(wide, impl.ErrSingle)), say(words*9*35, words*9*35, true))
	expect(t, say(impl.FirstUndetected(wide, impl.ErrSingle)), `"000000000" "000000001" true`)
	expect(t, say(impl.FirstUndetected(wide, impl.ErrPhonetic)), `"000000012" "000000020" true`)
	expect(t, say(impl.LeastDistance(wide)), `1 true`)
	long := oneState(2, 20)
	expect(t, say(impl.UndetectedIn(long, impl.ErrSingle)), say(1<<20*20, 1<<20*20, true))
	expect(t, say(impl.UndetectedAt(long, impl.ErrJumpTwin, 17)), say(1<<19, 1<<19, true))
	expect(t, say(impl.FirstUndetected(long, impl.ErrSwap)), say(strings.Repeat("0", 19)+"1", strings.Repeat("0", 18)+"10", true))
	expect(t, say(impl.LeastDistance(long)), `1 true`)
}

// A great chain with many states has small ones that are equal to it: its states and tables doubled change no count.
func TestPromise3CountsDoNotDependOnStatesThatAreNotReached(t *testing.T) {
	small := remainders(10, 18, 1, 5, 7, 11)
	doubled, ok := impl.JoinChains(small, oneStateOfTwo(10, 4))
	if !ok {
		t.Fatal("the chains fit")
	}
	for kind := range int64(6) {
		expect(t, say(impl.UndetectedIn(doubled, kind)), say(impl.UndetectedIn(small, kind)))
		expect(t, say(impl.FirstUndetected(doubled, kind)), say(impl.FirstUndetected(small, kind)))
	}
	expect(t, say(impl.LeastDistance(doubled)), say(impl.LeastDistance(small)))
}

// oneStateOfTwo checks all words and never reaches its second state.
func oneStateOfTwo(base, places int64) impl.Chain {
	c := oneState(base, places)
	c.States = 2
	c.Tables[0] = append(c.Tables[0], make([]int64, base))
	return c
}

func TestPromise3NoWordsHaveNoErrors(t *testing.T) {
	for _, c := range []impl.Chain{noWords(), remainders(2, 3, 0, 0, 0)} {
		c.End = c.States - 1
		expect(t, say(impl.CountWords(c)), `0 true`)
		expect(t, say(impl.WordAt(c, 0)), `"" false`)
		expect(t, say(impl.RankOfWord(c, "000")), `0 false`)
		expect(t, say(impl.LeastDistance(c)), `0 false`)
		for kind := range int64(5) {
			expect(t, say(impl.UndetectedIn(c, kind)), `0 0 true`)
			expect(t, say(impl.UndetectedAt(c, kind, 0)), `0 0 true`)
			expect(t, say(impl.FirstUndetected(c, kind)), `"" "" false`)
			expect(t, say(impl.IsCaught(c, kind)), `true`)
		}
	}
}

func TestPromise3OneWordHasNoDistance(t *testing.T) {
	c := oneWord()
	expect(t, say(impl.CountWords(c)), `1 true`)
	expect(t, say(impl.WordAt(c, 0)), `"1111" true`)
	expect(t, say(impl.RankOfWord(c, "1111")), `0 true`)
	expect(t, say(impl.LeastDistance(c)), `0 false`)
	expect(t, say(impl.UndetectedIn(c, impl.ErrSingle)), `0 4 true`)
	expect(t, say(impl.UndetectedIn(c, impl.ErrTwin)), `0 3 true`)
	expect(t, say(impl.UndetectedIn(c, impl.ErrSwap)), `0 0 true`)
}

func TestPromise3DistancesAreThoseOfAllCheckedWords(t *testing.T) {
	for _, c := range smallChains() {
		words := checkedWords(c)
		if len(words) > 1300 {
			continue
		}
		want := distanceOf(words)
		expect(t, say(impl.LeastDistance(c)), say(want, len(words) > 1))
	}
	for _, words := range [][]string{
		{"0120", "0121"}, {"1000", "2000"}, {"0012", "0021"}, {"1201", "2102"}, {"0123", "3210"},
		{"01201", "10210", "22222"}, {"00000", "11110", "22201"},
	} {
		expect(t, say(impl.LeastDistance(onlyWords(4, words...))), say(distanceOf(words), true))
	}
}

func TestPromise3DistancesOfGreatChains(t *testing.T) {
	// The word with the symbol 0 alone and the one with 1 alone are the only ones.
	repeated := impl.Chain{Base: 2, States: 4, End: 1, Places: make([]int64, 20)}
	repeated.Tables = [][][]int64{
		{{1, 2}, {1, 3}, {3, 2}, {3, 3}},
		{{3, 3}, {1, 3}, {3, 1}, {3, 3}},
	}
	repeated.Places[19] = 1
	expect(t, say(impl.CountWords(repeated)), `2 true`)
	expect(t, say(impl.LeastDistance(repeated)), `20 true`)
	expect(t, say(impl.LeastDistance(sumChain(36, 9))), `2 true`)
	expect(t, say(impl.LeastDistance(oneState(36, 9))), `1 true`)
}
