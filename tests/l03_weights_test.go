package tests

import (
	"math"
	"slices"
	"strings"
	"testing"

	"loop.example/g01130/impl"
)

// kindsFor returns the kinds of errors that a base has.
func kindsFor(base int64) []int64 {
	kinds := []int64{impl.ErrSingle, impl.ErrSwap, impl.ErrJump, impl.ErrTwin, impl.ErrJumpTwin}
	if base >= 10 {
		kinds = append(kinds, impl.ErrPhonetic)
	}
	return kinds
}

func TestPromise4ExamplesOfTheChapter(t *testing.T) {
	w, ok := impl.ReadWeighting("10/10/0/3 1")
	expect(t, say(w, ok), say(weighting(10, 10, 0, 3, 1), true))
	expect(t, say(impl.WeightSum(w, "12")), `5 true`)
	expect(t, say(impl.UnseenPairs(w, impl.ErrSwap, 0)), `10 true`)
	for a := range int64(10) {
		b := (a + 5) % 10
		word, wrong := allSymbols[a:a+1]+allSymbols[b:b+1], allSymbols[b:b+1]+allSymbols[a:a+1]
		expect(t, say(impl.WeightSum(w, word)), say(impl.WeightSum(w, wrong)))
	}
	c, _ := impl.KnownChain(impl.KnownLuhn, 11)
	expect(t, say(impl.IsChecked(c, "79927398713")), `true`)
}

func TestPromise4ValidWeightings(t *testing.T) {
	for _, w := range append(smallWeightings(),
		// The limits are just reached.
		weighting(2, 2, 1, make([]int64, 20)...), weighting(5, 36, 35, make([]int64, 20)...), weighting(6, 2, 0, make([]int64, 19)...),
		weighting(10, 10, 9, make([]int64, 15)...), weighting(31, 2, 0, make([]int64, 10)...), weighting(36, 36, 35, make([]int64, 9)...),
		weighting(11, 11, 10, make([]int64, 14)...), weighting(36, 36, 35, 35), weighting(2, 36, 0, 35), weighting(36, 2, 1, 1),
		changedWeighting(func(w *impl.Weighting) { w.Modulus = 36 }),
		changedWeighting(func(w *impl.Weighting) { w.Base = 2 }),
		changedWeighting(func(w *impl.Weighting) { w.Target = 10 }),
	) {
		if !impl.ValidWeighting(w) {
			t.Errorf("%v is valid", w)
		}
	}
}

func TestPromise4InvalidWeightings(t *testing.T) {
	noWeighting, noChain := say(impl.Weighting{}, false), say(impl.Chain{}, false)
	for _, w := range invalidWeightings() {
		word := strings.Repeat("0", len(w.Weights))
		expectAll(t, `false`, say(impl.ValidWeighting(w)), say(impl.IsCheckPlace(w, 0)))
		expectAll(t, `0 false`, say(impl.WeightSum(w, word)), say(impl.UnseenPairs(w, impl.ErrSingle, 0)), say(impl.UnseenPairs(w, impl.ErrPhonetic, 0)))
		for kind := range int64(6) {
			expect(t, say(impl.WeightCatches(w, kind)), `false`)
		}
		expect(t, say(impl.WeightChain(w)), noChain)
		expectAll(t, noWeighting, say(impl.MirrorWeighting(w)), say(impl.ScaleWeighting(w, 1)), say(impl.ScaleWeighting(w, 3)))
		expect(t, say(impl.PermutingOf(w)), say(impl.Permuting{}, false))
		expect(t, say(impl.WeightingText(w)), `"" false`)
		if t.Failed() {
			t.Fatalf("with the invalid weighting %v", w)
		}
	}
}

func TestPromise4SumsAreThoseOfAllDigits(t *testing.T) {
	for _, w := range smallWeightings() {
		for _, word := range wordsOver(w.Base, len(w.Weights)) {
			expect(t, say(impl.WeightSum(w, word)), say(sumOf(w, word), true))
		}
	}
	long := weighting(5, 36, 0, slices.Repeat([]int64{35}, 20)...)
	expect(t, say(impl.WeightSum(long, strings.Repeat("4", 20))), say(35*4*20%36, true))
	expect(t, say(impl.WeightSum(long, strings.Repeat("0", 19)+"1")), `35 true`)
	expect(t, say(impl.WeightSum(weighting(36, 36, 0, 35, 1), "ZY")), say((35*35+34)%36, true))
	expect(t, say(impl.WeightSum(weighting(36, 36, 0, slices.Repeat([]int64{35}, 9)...), "ZZZZZZZZZ")), say(35*35*9%36, true))
	expect(t, say(impl.WeightSum(weighting(2, 2, 0, 1), "1")), `1 true`)
}

func TestPromise4SumsNeedWordsWithASymbolForEachPlace(t *testing.T) {
	w := weighting(10, 11, 3, 5, 0, 10)
	for _, word := range []string{"", "0", "00", "0000", "00A", "A00", "0A0", "00a", "00 ", "0-1", "é0", "00\x00", "\xff00", "００", strings.Repeat("0", 1000)} {
		expect(t, say(impl.WeightSum(w, word)), `0 false`)
	}
	expect(t, say(impl.WeightSum(weighting(35, 11, 0, 1), "Z")), `0 false`)
	expect(t, say(impl.WeightSum(weighting(35, 11, 0, 1), "Y")), `1 true`)
}

func TestPromise4ChainsHaveATableForEachDifferentWeight(t *testing.T) {
	for _, w := range append(smallWeightings(),
		weighting(2, 36, 35, append(countedList(18), 17, 0)...), weighting(5, 36, 7, countedList(20)...),
		weighting(10, 10, 0, 3, 1, 3, 1, 3), weighting(10, 10, 0, 1, 1, 0, 3, 0, 1), weighting(36, 36, 35, 35, 1, 35),
	) {
		c, ok := impl.WeightChain(w)
		expect(t, say(c, ok), say(chainOfWeights(w), true))
		if !impl.ValidChain(c) {
			t.Errorf("the chain of %v is not valid", w)
		}
	}
	c, _ := impl.WeightChain(weighting(10, 11, 4, 3, 1, 3, 0, 1))
	expect(t, say(c.States, c.Start, c.End, len(c.Tables), c.Places), `11 0 4 3 [0 1 0 2 1]`)
	expect(t, say(c.Tables[0][10], c.Tables[1][0], c.Tables[2][7]), `[10 2 5 8 0 3 6 9 1 4] [0 1 2 3 4 5 6 7 8 9] [7 7 7 7 7 7 7 7 7 7]`)
}

func TestPromise4ChainsCheckTheWordsWithTheTarget(t *testing.T) {
	for _, w := range smallWeightings() {
		c, _ := impl.WeightChain(w)
		count := int64(0)
		for _, word := range wordsOver(w.Base, len(w.Weights)) {
			fits := sumOf(w, word) == w.Target
			if fits {
				count++
			}
			expect(t, say(impl.IsChecked(c, word)), say(fits))
		}
		expect(t, say(impl.CountWords(c)), say(count, true))
	}
}

// expectUnseen compares what is told of the pairs of a kind with what going through all words and errors tells.
func expectUnseen(t *testing.T, w impl.Weighting, kind int64) {
	t.Helper()
	possible := max(len(w.Weights)-sizesOfKinds[kind]+1, 0)
	catches := true
	for place := range possible {
		unseen := countUnseen(seenPairs(w, kind, place))
		catches = catches && unseen == 0
		expect(t, say(impl.UnseenPairs(w, kind, int64(place))), say(unseen, true))
	}
	for _, place := range []int64{math.MinInt64, -1, int64(possible), int64(len(w.Weights)), math.MaxInt64} {
		expect(t, say(impl.UnseenPairs(w, kind, place)), `0 false`)
	}
	expect(t, say(impl.WeightCatches(w, kind)), say(catches))
}

func TestPromise4UnseenPairsAreThoseThatNeverChangeTheSum(t *testing.T) {
	for _, w := range smallWeightings() {
		for _, kind := range kindsFor(w.Base) {
			expectUnseen(t, w, kind)
		}
		if t.Failed() {
			t.Fatalf("with the weighting %v", w)
		}
	}
}

func TestPromise4WhatWeightsCatchStaysUndetectedInNoWord(t *testing.T) {
	caught := 0
	for _, w := range smallWeightings() {
		c, _ := impl.WeightChain(w)
		for _, kind := range kindsFor(w.Base) {
			undetected := reportOf(c, kind).undetected
			if !impl.WeightCatches(w, kind) {
				continue
			}
			caught++
			if undetected > 0 || !impl.IsCaught(c, kind) {
				t.Errorf("%v catches the kind %d, but %d errors are undetected", w, kind, undetected)
			}
		}
	}
	if caught < 100 {
		t.Errorf("just %d kinds have been caught", caught)
	}
}

// An error of an unseen pair is undetected in each checked word, and each other error is detected.
func TestPromise4UndetectedErrorsAreThoseOfUnseenPairs(t *testing.T) {
	for _, w := range smallWeightings() {
		c, _ := impl.WeightChain(w)
		words := checkedWords(chainOfWeights(w))
		for _, kind := range kindsFor(w.Base) {
			size := sizesOfKinds[kind]
			for place := range max(len(w.Weights)-size+1, 0) {
				seen := seenPairs(w, kind, place)
				unseen := 0
				for _, word := range words {
					for _, wrong := range errorsOf(w.Base, kind, word, place) {
						if !seen[pairOf(kind, word[place:place+size], wrong[place:place+size])] {
							unseen++
						}
					}
				}
				undetected, _, ok := impl.UndetectedAt(c, kind, int64(place))
				expect(t, say(w, kind, place, undetected, ok), say(w, kind, place, unseen, true))
			}
		}
	}
}

func pairsOfKind(base, kind int64) int64 {
	if kind == impl.ErrPhonetic {
		return 16
	}
	return base * (base - 1)
}

// unseenByDivisors counts the pairs whose difference times a factor is divided by the modulus.
func unseenByDivisors(base, modulus, factor int64) int64 {
	unseen := int64(0)
	for a := range base {
		for b := range base {
			if a != b && (a-b)*factor%modulus == 0 {
				unseen++
			}
		}
	}
	return unseen
}

// The factor by which the difference of the symbols changes the sum, for all kinds but ErrPhonetic.
func factorAt(weights []int64, kind int64, place int) int64 {
	switch kind {
	case impl.ErrSwap:
		return weights[place] - weights[place+1]
	case impl.ErrJump:
		return weights[place] - weights[place+2]
	case impl.ErrTwin:
		return weights[place] + weights[place+1]
	case impl.ErrJumpTwin:
		return weights[place] + weights[place+2]
	}
	return weights[place]
}

func TestPromise4UnseenPairsOfGreatWeightings(t *testing.T) {
	great := []impl.Weighting{weighting(5, 36, 0, countedList(20)...), weighting(2, 2, 1, slices.Repeat([]int64{1, 0}, 10)...)}
	for seed := range int64(40) {
		number := numbersFrom(seed)
		modulus := []int64{36, 24, 12, 30, 35, 10, 11}[number(7)]
		great = append(great, randomWeighting(seed, 36, modulus, 9), randomWeighting(seed, 10, modulus, 15), randomWeighting(seed, 2+number(4), modulus, 20))
	}
	for _, w := range great {
		for kind := range int64(5) {
			catches := true
			last := len(w.Weights) - sizesOfKinds[kind]
			for place := range last + 1 {
				unseen := unseenByDivisors(w.Base, w.Modulus, factorAt(w.Weights, kind, place))
				catches = catches && unseen == 0
				expect(t, say(impl.UnseenPairs(w, kind, int64(place))), say(unseen, true))
			}
			expect(t, say(impl.UnseenPairs(w, kind, int64(last+1))), `0 false`)
			expect(t, say(impl.WeightCatches(w, kind)), say(catches))
		}
	}
}

func TestPromise4UnseenPairsOfCommonDivisors(t *testing.T) {
	for _, c := range []struct {
		w           impl.Weighting
		kind, place int64
		want        string
	}{
		{weighting(10, 10, 0, 0), impl.ErrSingle, 0, `90 true`},
		{weighting(10, 10, 0, 5), impl.ErrSingle, 0, `40 true`},
		{weighting(10, 10, 0, 4), impl.ErrSingle, 0, `10 true`},
		{weighting(10, 10, 0, 7), impl.ErrSingle, 0, `0 true`},
		{weighting(10, 2, 0, 1), impl.ErrSingle, 0, `40 true`},
		{weighting(36, 36, 0, 18), impl.ErrSingle, 0, `612 true`},
		{weighting(2, 36, 0, 18), impl.ErrSingle, 0, `0 true`},
		{weighting(10, 10, 0, 8, 3), impl.ErrSwap, 0, `40 true`},
		{weighting(10, 10, 0, 3, 8), impl.ErrSwap, 0, `40 true`},
		{weighting(10, 10, 0, 3, 3), impl.ErrSwap, 0, `90 true`},
		{weighting(10, 10, 0, 1, 9, 3), impl.ErrJump, 0, `10 true`},
		{weighting(10, 10, 0, 3, 7), impl.ErrTwin, 0, `90 true`},
		{weighting(10, 10, 0, 3, 1), impl.ErrTwin, 0, `10 true`},
		{weighting(10, 10, 0, 9, 9, 9, 6), impl.ErrJumpTwin, 1, `40 true`},
		// An unseen pair differs by the modulus at least, divided by what this has in common with the weight.
		{weighting(10, 11, 0, 3, 3), impl.ErrSingle, 0, `0 true`},
		{weighting(10, 20, 0, 10, 1), impl.ErrSingle, 0, `40 true`},
		{weighting(10, 20, 0, 2, 1), impl.ErrSingle, 0, `0 true`},
		{weighting(11, 20, 0, 2, 1), impl.ErrSingle, 0, `2 true`},
		{weighting(12, 11, 0, 1), impl.ErrSingle, 0, `2 true`},
	} {
		expect(t, say(impl.UnseenPairs(c.w, c.kind, c.place)), c.want)
	}
}

func TestPromise4KindsThatAreNone(t *testing.T) {
	for _, w := range []impl.Weighting{weighting(10, 11, 0, 3, 2, 1), weighting(2, 2, 0, 0, 0, 0), weighting(36, 36, 0, 1)} {
		for _, kind := range append(unknownKinds, 7, -5, 1<<32) {
			expect(t, say(impl.UnseenPairs(w, kind, 0)), `0 false`)
			expect(t, say(impl.WeightCatches(w, kind)), `false`)
		}
	}
}

// All weights are 0, so that each error that is possible at a place is unseen there.
func TestPromise4PlacesOfUnseenPairs(t *testing.T) {
	for _, places := range []int{1, 2, 3, 4, 15} {
		w := weighting(10, 10, 0, make([]int64, places)...)
		for kind, size := range sizesOfKinds {
			kind := int64(kind)
			for place := range places + 2 {
				want := `0 false`
				if place+size <= places {
					want = say(pairsOfKind(10, kind), true)
				}
				expect(t, say(impl.UnseenPairs(w, kind, int64(place))), want)
			}
			expect(t, say(impl.WeightCatches(w, kind)), say(places < size))
		}
	}
}

// Only the errors at one place are unseen; the first one and the last one are places as well.
func TestPromise4WeightsCatchOnlyWhatIsSeenAtAllPlaces(t *testing.T) {
	for _, c := range []struct {
		kind    int64
		weights []int64
	}{
		{impl.ErrSingle, []int64{0, 1, 2}}, {impl.ErrSingle, []int64{1, 2, 0}}, {impl.ErrSwap, []int64{1, 1, 2, 3}}, {impl.ErrSwap, []int64{1, 2, 3, 3}},
		{impl.ErrJump, []int64{1, 2, 1, 3}}, {impl.ErrJump, []int64{1, 2, 3, 2}}, {impl.ErrTwin, []int64{4, 7, 2, 1}}, {impl.ErrTwin, []int64{1, 2, 4, 7}},
		{impl.ErrJumpTwin, []int64{4, 1, 7, 1}}, {impl.ErrJumpTwin, []int64{1, 4, 1, 7}}, {impl.ErrPhonetic, []int64{3, 2, 0}}, {impl.ErrPhonetic, []int64{0, 3, 2}},
	} {
		w := weighting(10, 11, 5, c.weights...)
		places := []int64{}
		for place := range int64(len(c.weights) - sizesOfKinds[c.kind] + 1) {
			if unseen, _ := impl.UnseenPairs(w, c.kind, place); unseen > 0 {
				places = append(places, place)
			}
		}
		expect(t, say(len(places), impl.WeightCatches(w, c.kind)), `1 false`)
	}
}

func TestPromise4PhoneticPairs(t *testing.T) {
	for _, c := range []struct {
		text string
		want string
	}{
		// The error from a0 to 1a changes the sum by w + va - wa, where w and v are the weights.
		{"10/11/0/2 1", `2 true`}, {"11/11/0/2 1", `2 true`}, {"36/11/0/2 1", `2 true`}, {"10/10/0/3 1", `0 true`}, {"10/10/0/1 1", `0 true`},
		{"10/2/0/0 0", `16 true`}, {"36/36/35/0 0", `16 true`}, {"10/2/0/1 0", `8 true`}, {"10/2/0/0 1", `8 true`}, {"10/2/1/1 1", `0 true`},
		{"10/7/0/2 1", `4 true`}, {"10/8/0/1 0", `2 true`}, {"10/9/0/1 0", `0 true`}, {"10/10/0/9 8", `2 true`}, {"12/36/0/10 9", `0 true`},
		{"36/36/0/0 18", `8 true`}, {"10/36/0/0 4", `2 true`}, {"10/36/0/1 2", `0 true`}, {"10/3/0/1 2", `6 true`},
		// There is none below ten symbols.
		{"9/11/0/2 1", `0 false`}, {"9/9/0/0 0", `0 false`}, {"2/36/0/0 0", `0 false`},
	} {
		w, ok := impl.ReadWeighting(c.text)
		expect(t, say(ok, c.text)+" "+say(impl.UnseenPairs(w, impl.ErrPhonetic, 0)), say(true, c.text)+" "+c.want)
		expect(t, say(impl.UnseenPairs(w, impl.ErrPhonetic, 1)), `0 false`)
		expect(t, say(impl.WeightCatches(w, impl.ErrPhonetic)), say(c.want == `0 true`))
	}
	expect(t, say(impl.WeightCatches(weighting(9, 11, 0, 1), impl.ErrPhonetic)), `false`)
	expect(t, say(impl.WeightCatches(weighting(10, 11, 0, 1), impl.ErrPhonetic)), `true`)
}

func TestPromise4CheckPlacesAreThoseOfAllWords(t *testing.T) {
	for _, w := range smallWeightings() {
		c, _ := impl.WeightChain(w)
		for place := range w.Weights {
			is := isCheckPlace(w, place)
			expect(t, say(w, place, impl.IsCheckPlace(w, int64(place))), say(w, place, is))
			symbols, _ := impl.CheckSymbols(c, strings.Repeat("0", len(w.Weights)), int64(place))
			if is && len(symbols) != 1 {
				t.Errorf("%v has the symbols %s at the place %d for a check symbol", w, symbols, place)
			}
		}
		for _, place := range []int64{math.MinInt64, -1, int64(len(w.Weights)), math.MaxInt64} {
			expect(t, say(impl.IsCheckPlace(w, place)), `false`)
		}
	}
}

func TestPromise4CheckPlaces(t *testing.T) {
	for _, c := range []struct {
		text, want string
	}{
		{"10/10/0/3 1", "!!"}, {"10/10/0/2 1", ".!"}, {"10/10/0/2 4", ".."}, {"11/11/0/2 1", "!!"}, {"36/36/7/35 5 6", "!!."},
		// With fewer symbols than remainders, some sums have no symbol, unless no word reaches them.
		{"10/11/0/2 1", ".."}, {"2/3/0/1 1", ".."}, {"2/3/1/1 1", "!!"}, {"3/4/2/1 1", "!!"}, {"3/4/1/1 1", ".."}, {"2/36/35/1 1", ".."},
		{"2/36/1/1 1", "!!"}, {"3/9/0/1 3", ".."}, {"3/9/0/1 0", "!."}, {"3/9/3/1 0", ".."},
		// A weight without an inverse can do if just some sums are reached.
		{"2/4/2/2 2", "!!"}, {"2/4/1/2 1", ".."}, {"2/4/1/2 2", ".."}, {"3/6/2/2 4", "!!"}, {"3/6/2/2 3", ".."}, {"10/20/0/2 2", "!!"}, {"10/20/1/2 2", ".."},
		// With more symbols than remainders, some sums have several ones.
		{"3/2/0/1 1", ".."}, {"3/2/1/1", "!"}, {"3/2/0/1", "."}, {"3/2/1/0 1", ".!"}, {"3/2/0/0 1", ".."}, {"12/11/5/1 1", ".."}, {"12/11/5/1 0", "!."}, {"36/2/1/1", "."},
		{"2/2/0/0", "."}, {"2/2/1/0", "."}, {"2/2/0/1", "!"}, {"36/36/35/35", "!"}, {"36/36/35/6", "."},
	} {
		w, ok := impl.ReadWeighting(c.text)
		got := ""
		for place := range int64(len(w.Weights)) {
			got += map[bool]string{true: "!", false: "."}[impl.IsCheckPlace(w, place)]
		}
		expect(t, say(c.text, ok, got), say(c.text, true, c.want))
	}
}

func TestPromise4CheckPlacesOfGreatWeightings(t *testing.T) {
	for _, c := range []struct {
		w    impl.Weighting
		want bool
	}{
		{weighting(5, 5, 4, slices.Repeat([]int64{3}, 20)...), true},
		{weighting(5, 6, 4, slices.Repeat([]int64{1}, 20)...), false},
		{weighting(36, 36, 0, slices.Repeat([]int64{35}, 9)...), true},
		{weighting(36, 36, 0, slices.Repeat([]int64{34}, 9)...), false},
		{weighting(10, 10, 0, slices.Repeat([]int64{7}, 15)...), true},
		{weighting(10, 11, 0, slices.Repeat([]int64{7}, 15)...), false},
	} {
		last := int64(len(c.w.Weights) - 1)
		expect(t, say(impl.IsCheckPlace(c.w, 0), impl.IsCheckPlace(c.w, last), impl.IsCheckPlace(c.w, last+1)), say(c.want, c.want, false))
	}
}

func TestPromise4MirroredWeightings(t *testing.T) {
	w, ok := impl.MirrorWeighting(weighting(10, 11, 3, 5, 0, 10))
	expect(t, say(w, ok), say(weighting(10, 11, 3, 10, 0, 5), true))
	long, ok := impl.MirrorWeighting(weighting(5, 36, 35, countedList(20)...))
	expect(t, say(long.Weights[0], long.Weights[1], long.Weights[19], ok), `19 18 0 true`)
	for _, w := range smallWeightings() {
		mirror, ok := impl.MirrorWeighting(w)
		back, okBack := impl.MirrorWeighting(mirror)
		expect(t, say(back, ok, okBack), say(w, true, true))
		for _, word := range wordsOver(w.Base, len(w.Weights)) {
			symbols := []byte(word)
			slices.Reverse(symbols)
			expect(t, say(impl.WeightSum(mirror, string(symbols))), say(sumOf(w, word), true))
		}
	}
}

func TestPromise4ScaledWeightingsCheckTheSameWords(t *testing.T) {
	w := weighting(10, 10, 4, 3, 0, 5)
	scaled, ok := impl.ScaleWeighting(w, 7)
	expect(t, say(scaled, ok), say(weighting(10, 10, 8, 1, 0, 5), true))
	for _, w := range smallWeightings() {
		for by := int64(-1); by <= 37; by++ {
			scaled, ok := impl.ScaleWeighting(w, by)
			coprime := by >= 1 && by < w.Modulus && hasInverse(by, w.Modulus)
			if ok != coprime {
				t.Errorf("%v times %d: %v", w, by, ok)
			}
			if !ok {
				expect(t, say(scaled), say(impl.Weighting{}))
				continue
			}
			want := weighting(w.Base, w.Modulus, w.Target*by%w.Modulus)
			for _, weight := range w.Weights {
				want.Weights = append(want.Weights, weight*by%w.Modulus)
			}
			expect(t, say(scaled), say(want))
			c, _ := impl.WeightChain(scaled)
			if by%5 == 0 {
				expect(t, say(checkedWords(c)), say(checkedWords(chainOfWeights(w))))
			}
		}
	}
}

func hasInverse(a, m int64) bool {
	for x := range m {
		if a*x%m == 1 {
			return true
		}
	}
	return false
}

func TestPromise4NumbersThatDoNotScale(t *testing.T) {
	none := say(impl.Weighting{}, false)
	for _, modulus := range []int64{2, 10, 11, 36} {
		w := weighting(10, modulus, 0, 1, 1)
		for _, by := range []int64{math.MinInt64, -modulus, -1, 0, modulus, modulus + 1, 2 * modulus, math.MaxInt64} {
			expect(t, say(impl.ScaleWeighting(w, by)), none)
		}
		expect(t, say(impl.ScaleWeighting(w, 1)), say(w, true))
	}
	for _, by := range []int64{2, 3, 4, 6, 8, 9, 18, 33, 34} {
		expect(t, say(impl.ScaleWeighting(weighting(10, 36, 0, 1, 1), by)), none)
	}
	expect(t, say(impl.ScaleWeighting(weighting(10, 36, 1, 35, 6), 35)), say(weighting(10, 36, 35, 1, 30), true))
}

func TestPromise4TextsOfWeightings(t *testing.T) {
	for text, w := range map[string]impl.Weighting{
		"10/10/0/3 1":      weighting(10, 10, 0, 3, 1),
		"2/2/1/0":          weighting(2, 2, 1, 0),
		"36/36/35/35 0 35": weighting(36, 36, 35, 35, 0, 35),
		"5/36/0/" + "0 1 2 3 4 5 6 7 8 9 10 11 12 13 14 15 16 17 18 19": weighting(5, 36, 0, countedList(20)...),
	} {
		expect(t, say(impl.WeightingText(w)), say(text, true))
		read, ok := impl.ReadWeighting(text)
		expect(t, say(read, ok), say(w, true))
	}
	for _, w := range smallWeightings() {
		text, ok := impl.WeightingText(w)
		read, okRead := impl.ReadWeighting(text)
		expect(t, say(read, ok, okRead), say(w, true, true))
	}
}

func TestPromise4TextsThatAreNone(t *testing.T) {
	none := say(impl.Weighting{}, false)
	for _, text := range []string{
		"", "/", "///", "none", "10", "10/10", "10/10/0", "10/10/0/", "10/10/0/none", "10/10/0 3 1", "10/10/3 1", "/10/10/0/3 1", "10/10/0/3 1/", "10/10/0/3/1",
		"10/10/0/3 1/0", "10//10/0/3 1", "10/10//3 1", "/10/0/3 1", "10/10/0/3 1 ", "10/10/0/ 3 1", "10/10/0/3  1", " 10/10/0/3 1", "10 /10/0/3 1",
		"10/ 10/0/3 1", "10/10/ 0/3 1", "10/10/0/3 1\n", "\n10/10/0/3 1", "10/10/0/3\t1", "010/10/0/3 1", "10/010/0/3 1", "10/10/00/3 1", "10/10/0/03 1", "10/10/0/3 01",
		"+10/10/0/3 1", "10/+10/0/3 1", "10/10/+0/3 1", "10/10/-0/3 1", "10/10/0/+3 1", "10/10/0/3 -1", "10/10/0/3 -0", "-10/10/0/3 1", "10/10/-1/3 1",
		"10\\10\\0\\3 1", "10/10/0/3,1", "A/10/0/3 1", "10/A/0/3 1", "10/10/A/3 1", "10/10/0/A 1", "１０/10/0/3 1", "10/10/0/3 1\x00", "\xff/10/0/3 1",
		// These are texts of weightings that are not valid.
		"1/10/0/3 1", "0/10/0/3 1", "37/10/0/3 1", "10/1/0/0", "10/0/0/0", "10/37/0/3 1", "10/10/10/3 1", "10/10/0/10 1", "10/10/0/3 10", "10/3/3/1", "6/2/0/" + strings.Repeat("0 ", 19) + "0",
		"2/2/0/" + strings.Repeat("0 ", 20) + "0", "2/2/0/" + strings.Repeat("0 ", 100000) + "0", "10/10/0/" + strings.Repeat("9", 1000), strings.Repeat("/", 100000),
		"9223372036854775818/10/0/3 1", "18446744073709551626/10/0/3 1",
	} {
		expect(t, say(impl.ReadWeighting(text)), none)
	}
}

func TestPromise4MadeWeightingsHaveMemoryOfTheirOwn(t *testing.T) {
	w := weighting(10, 10, 4, 3, 0, 7)
	mirror, _ := impl.MirrorWeighting(w)
	scaled, _ := impl.ScaleWeighting(w, 1)
	c, _ := impl.WeightChain(w)
	p, _ := impl.PermutingOf(weighting(3, 3, 0, 2, 2))
	want := say(mirror, scaled, c)
	w.Weights[0], w.Weights[2] = 9, 9
	expect(t, say(mirror, scaled, c), want)
	p.Orders[0][0] = 5
	expect(t, say(p.Orders), `[[5 2 1] [0 2 1]]`)
}
