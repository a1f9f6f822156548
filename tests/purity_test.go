package tests

import (
	"fmt"
	"math"
	"reflect"
	"slices"
	"strings"
	"testing"

	"loop.example/g01130/impl"
)

var builtFunctions = []struct {
	name string
	call any
}{
	{"IsName", impl.IsName},
	{"Decimal", impl.Decimal},
	{"ReadDecimal", impl.ReadDecimal},
	{"SymbolOf", impl.SymbolOf},
	{"IsWordOf", impl.IsWordOf},
	{"DigitsOf", impl.DigitsOf},
	{"WordOf", impl.WordOf},
	{"RemainderOf", impl.RemainderOf},
	{"GcdOf", impl.GcdOf},
	{"InverseOf", impl.InverseOf},
	{"WordRemainder", impl.WordRemainder},
	{"IsOrder", impl.IsOrder},
	{"ComposeOrders", impl.ComposeOrders},
	{"InverseOrder", impl.InverseOrder},
	{"CyclesOf", impl.CyclesOf},
	{"PowerOrder", impl.PowerOrder},
	{"ListText", impl.ListText},
	{"ReadList", impl.ReadList},
	{"CheckOf", impl.CheckOf},
	{"ValidChain", impl.ValidChain},
	{"RunChain", impl.RunChain},
	{"IsChecked", impl.IsChecked},
	{"CountWords", impl.CountWords},
	{"WordAt", impl.WordAt},
	{"RankOfWord", impl.RankOfWord},
	{"CheckSymbols", impl.CheckSymbols},
	{"UndetectedAt", impl.UndetectedAt},
	{"UndetectedIn", impl.UndetectedIn},
	{"FirstUndetected", impl.FirstUndetected},
	{"IsCaught", impl.IsCaught},
	{"LeastDistance", impl.LeastDistance},
	{"JoinChains", impl.JoinChains},
	{"EvenChain", impl.EvenChain},
	{"ValidWeighting", impl.ValidWeighting},
	{"WeightSum", impl.WeightSum},
	{"WeightChain", impl.WeightChain},
	{"UnseenPairs", impl.UnseenPairs},
	{"WeightCatches", impl.WeightCatches},
	{"IsCheckPlace", impl.IsCheckPlace},
	{"MirrorWeighting", impl.MirrorWeighting},
	{"ScaleWeighting", impl.ScaleWeighting},
	{"ValidPermuting", impl.ValidPermuting},
	{"PermutingChain", impl.PermutingChain},
	{"PermutingOf", impl.PermutingOf},
	{"KnownChain", impl.KnownChain},
	{"WeightingText", impl.WeightingText},
	{"ReadWeighting", impl.ReadWeighting},
	{"IsQuasigroup", impl.IsQuasigroup},
	{"TurnTable", impl.TurnTable},
	{"RenameTable", impl.RenameTable},
	{"ZeroDiagonal", impl.ZeroDiagonal},
	{"SwapClashes", impl.SwapClashes},
	{"ChainClashes", impl.ChainClashes},
	{"IsTotally", impl.IsTotally},
	{"LinearTable", impl.LinearTable},
	{"ProductTable", impl.ProductTable},
	{"FirstTotally", impl.FirstTotally},
	{"CountTotally", impl.CountTotally},
	{"TableChain", impl.TableChain},
	{"TableText", impl.TableText},
	{"ReadTable", impl.ReadTable},
	{"ValidGroup", impl.ValidGroup},
	{"CyclicGroup", impl.CyclicGroup},
	{"DihedralGroup", impl.DihedralGroup},
	{"ProductGroup", impl.ProductGroup},
	{"IdentityOf", impl.IdentityOf},
	{"InverseIn", impl.InverseIn},
	{"PowerIn", impl.PowerIn},
	{"OrderIn", impl.OrderIn},
	{"IsCommutative", impl.IsCommutative},
	{"CentreOf", impl.CentreOf},
	{"SubgroupOf", impl.SubgroupOf},
	{"IsComplete", impl.IsComplete},
	{"LeastComplete", impl.LeastComplete},
	{"IsAntisymmetric", impl.IsAntisymmetric},
	{"LeastAntisymmetric", impl.LeastAntisymmetric},
	{"GroupChain", impl.GroupChain},
	{"DihedralChain", impl.DihedralChain},
	{"EditDistance", impl.EditDistance},
	{"TypingDistance", impl.TypingDistance},
	{"ScriptOf", impl.ScriptOf},
	{"ApplyScript", impl.ApplyScript},
	{"NearWords", impl.NearWords},
	{"WrongWords", impl.WrongWords},
	{"CandidatesFor", impl.CandidatesFor},
	{"CompletionsOf", impl.CompletionsOf},
	{"ShorteningsOf", impl.ShorteningsOf},
	{"KeySteps", impl.KeySteps},
	{"LikelySingles", impl.LikelySingles},
	{"LeastTyping", impl.LeastTyping},
	{"ValidLikeness", impl.ValidLikeness},
	{"AreAlike", impl.AreAlike},
	{"ClearSymbols", impl.ClearSymbols},
	{"IsClear", impl.IsClear},
	{"FamiliesOf", impl.FamiliesOf},
	{"FoldWord", impl.FoldWord},
	{"ValidSpeech", impl.ValidSpeech},
	{"SpeakNumber", impl.SpeakNumber},
	{"HearNumber", impl.HearNumber},
	{"WordDistance", impl.WordDistance},
	{"IsLexicon", impl.IsLexicon},
	{"LeastGap", impl.LeastGap},
	{"HearWord", impl.HearWord},
	{"GroupWord", impl.GroupWord},
	{"UngroupWord", impl.UngroupWord},
}

var triedNumbers = []int64{
	math.MinInt64, -impl.MaxValue - 1, -impl.MaxValue, -1, 0, 1, 2, 3, 4, 5, 6, 10, 35, 36, 37, 999, 1000, 1001,
	impl.CheckSize - 1, impl.CheckSize, impl.MaxValue, impl.MaxValue + 1, math.MaxInt64,
}

const mostCalls = 40000

var fewNumbers = []int64{math.MinInt64, -1, 0, 1, 2, 20, 21, math.MaxInt64}

var triedTexts = []string{
	"", "0", "00", "7", "-7", "-0", "+7", "007", "1A", "1a", "Z", "luhn", "abcdefgh", "abcdefghi", "none", "None",
	"1 2", "1  2", " 1", "1 ", "-", " ", "\x00", "\xff", "\xc3\x28", "é", "Ａ", "1000000000000000", "1000000000000001",
	"9223372036854775808", strings.Repeat("Z", 20), strings.Repeat("Z", 21), strings.Repeat("1 ", 40) + "1",
	strings.Repeat("0", 100000), strings.Repeat(" ", 100000), "011", "100", "102", "0123", "ZZ", strings.Repeat("1", 20),
	"10/10/0/3 1", "36/36/35/35 0 35", "10/10/0/3 10", "10/10/0/none", "/", strings.Repeat("/", 100000),
	"01/10", "012/201/120", "00/11", "01/10/", "01/ 10", "012/201", strings.Repeat("0/", 100000),
	"=", "=X=", "SS", "DI", "2013", "01100", strings.Repeat("0", 12), strings.Repeat("01", 7), strings.Repeat("0", 19), strings.Repeat("=", 100000),
	"O", "OI0", "0O1I", mostAlike, "a", "five", "fine", "ba-di", "ba-", "A-B12", "AB12", strings.Repeat("z", 20), strings.Repeat("z", 21), strings.Repeat("ba-", 100000),
}

// fewTexts has scripts for some words.
var fewTexts = []string{
	"", "0", "00", "011", "100", "102", "0123", "1Z", "ZZ", "a", "\xff", "=", "=X=", "S==", "I=S", "X", "DDDIII", "=X", "===", "d", strings.Repeat("Z", 20),
	strings.Repeat("Z", 21), strings.Repeat("1", 20), strings.Repeat("=", 20), strings.Repeat("=", 100000), "O", "I", "1", "B",
}

var triedWordLists = [][]string{
	nil, {}, {""}, {"0"}, {"", ""}, {"0", "0"}, {"01", "10"}, {"01", "210", "", "ZZ"}, {"01", "a"}, {"a", "01"}, {"01", "\xff", "02"},
	slices.Repeat([]string{"01"}, 100), slices.Repeat([]string{"01"}, 101), wordsOver(3, 4), wordsOver(2, 7), make([]string, 1000),
	{"five", "nine", "zero"}, {"a", "five", "ab"}, {"five", "five"}, {"", "five"}, {strings.Repeat("z", 20), strings.Repeat("z", 19)}, lexiconOf(16), lexiconOf(17),
	{strings.Repeat("0", 12), strings.Repeat("Z", 12)}, {strings.Repeat("0", 12), strings.Repeat("Z", 13)}, {strings.Repeat("0", 100000), "0"},
}

var triedLists = [][]int64{
	nil, {}, {0}, {1}, {0, 1}, {1, 0}, {0, 0}, {1, 2, 0}, {2, 1, 0}, {1, 2}, {-1, 0}, {0, 2, 1, 4, 5, 3}, {35, 36},
	{math.MinInt64, math.MaxInt64}, {impl.MaxValue, -impl.MaxValue}, {impl.MaxValue + 1}, {0, -impl.MaxValue - 1},
	turned(20), turned(21), turned(36), turned(37), make([]int64, 40), make([]int64, 41), make([]int64, 1000),
	{0, 2, 1}, dihedralOrder, make([]int64, 10), make([]int64, 11),
	{1, 3}, {4}, {20}, {2, 2}, slices.Repeat([]int64{2}, 10), slices.Repeat([]int64{2}, 11),
}

// fewLists has orders for some of triedTables.
var fewLists = [][]int64{nil, {0}, {1, 0}, {1, 2, 0}, {2, 1, 0}, {0, 0, 1}, {-1, 0}, turned(10), turned(36)}

var triedTables = [][][]int64{
	nil, {}, {nil}, {{}}, {{0}}, {{0, 0}}, {{0, 1}, {1, 0}}, {{0, 0}, {1, 1}}, {{0, 2}, {1, 0}}, {{0, 1}, {1}}, {{0, 1}, nil},
	{{0, -1}, {1, 0}}, {{math.MinInt64, math.MaxInt64}, {0, 0}}, sumTable(3, 3, 1), sumTable(10, 10, 1), sumTable(36, 36, 5),
	sumTable(37, 10, 1), sumTable(10, 37, 1), make([][]int64, 1000), {make([]int64, 1000)},
	tableOf("10/01"), tableOf("012/201/120"), tableOf("0123/1230/3012/2301"), tableOf("012/120/210"), sumTable(10, 10, 2), sumTable(37, 37, 1),
	// These are maps as well.
	sameOrders(20, 1, 0), sameOrders(21, 1, 0), mapsOf(dihedralOrder, 15), mapsOf(dihedralOrder, 16), tableOf("012/021/00"),
}

var triedChains = append(invalidChains(),
	impl.Chain{}, parity(3), parity(20), sumChain(10, 4), sumChain(36, 2), remainders(3, 4, 2, 3), noWords(), oneWord(),
	oneState(2, 20), oneState(36, 9), oneState(2, 1), randomChain(11, 12, 3, 20, 3), randomChain(12, 36, 2, 5, 4),
)

var triedWeightings = append(invalidWeightings(),
	weighting(2, 2, 1, 1, 0, 1), weighting(10, 10, 0, 3, 1), weighting(10, 10, 7, 3, 9, 3), weighting(10, 11, 0, 3, 2, 1),
	weighting(36, 36, 35, 35, 0, 35), weighting(36, 36, 0, slices.Repeat([]int64{35}, 9)...), weighting(5, 36, 0, countedList(20)...),
	weighting(5, 5, 4, slices.Repeat([]int64{3}, 20)...), weighting(2, 36, 35, 1), weighting(36, 2, 1, 1),
)

var triedPermutings = append(invalidPermutings(),
	permuting(2, 1, []int64{1, 0}), permuting(3, 2, []int64{1, 2, 0}, []int64{0, 2, 1}, []int64{1, 2, 0}),
	permuting(2, 0, sameOrders(20, 1, 0)...), permuting(4, 3, ordersOf(4)[:20]...), permuting(36, 35, turned(36), countedList(36)),
)

var triedGroups = []impl.Group{
	{}, groupOfText("0"), groupOfText("01/10"), groupOfText("10/01"), groupOfText("012/120/201"), groupOfText("201/012/120"),
	groupOfText("0123/1032/2301/3210"), groupOf(withNames(dihedralTable(3), turned(6))), groupOfText(quaternionText),
	groupOf(linearTable(10, 1, 1, 0)), groupOf(dihedralTable(5)), groupOf(withNames(dihedralTable(5), turned(10))),
	groupOf(linearTable(11, 1, 1, 0)), groupOf(dihedralTable(6)), groupOf(make([][]int64, 1000)), groupOfText("/"), groupOfText("1"), groupOfText("01"), groupOfText("01/1"),
	groupOfText("02/20"), groupOf([][]int64{{0, 1}, {math.MinInt64, math.MaxInt64}}), groupOfText("012/100/200"), groupOf(loopOfTen()),
	groupOfText("00/00"), groupOfText("01/01"), groupOfText("00/11"), groupOfText("00/01"), groupOf(withZero(linearTable(9, 1, 1, 0))),
}

var triedLikenesses = []impl.Likeness{
	{}, likeness("", "01"), likeness(mostAlike + "C"), likeness("0AA"), likeness("o"), likeness("\xff"), likeness("01", ""), likeness("01", "0"), likeness("01", "012"),
	likeness("01", "00"), likeness("01", "02"), likeness("01", "01", "01"), likeness("012", "01", "12", "10"), likeness("01", "0\xff"), likeness(mostAlike, pairsOf(mostAlike)[:41]...),
	likeness("0"), likeness("01"), likeness("0O1I", "0O", "1I"), likeness("O0I1", "O0", "I1", "01"), likeness("BAC", "AB", "BC"), likeness(mostAlike),
	likeness(mostAlike, pairsOf(mostAlike)[:40]...), pathThrough(mostAlike, mostAlike), ringOf("ABCDE"), likeness("012345678", pairsOf("012345678")...),
}

var triedSpeeches = append(invalidSpeeches(),
	speech("b", "a"), speech("bd", "ai"), speech("db", "ia"), speech("bcdfghjkl", "aei"), speech(mostFirstLetters, mostSecondLetters), speech(mostFirstLetters[:15], "aeiou"),
)

// arguments are numbers, texts and lists to pass; what is passed for other types is always the same.
type arguments struct {
	numbers []int64
	texts   []string
	lists   [][]int64
}

var (
	manyArguments = arguments{triedNumbers, triedTexts, triedLists}
	fewArguments  = arguments{fewNumbers, fewTexts, fewLists}
)

// of returns what to pass for each type of a parameter.
func (a arguments) of(parameter reflect.Type) []reflect.Value {
	switch parameter {
	case reflect.TypeFor[int64]():
		return valuesOf(a.numbers)
	case reflect.TypeFor[string]():
		return valuesOf(a.texts)
	case reflect.TypeFor[[]string]():
		return valuesOf(triedWordLists)
	case reflect.TypeFor[[]int64]():
		return valuesOf(a.lists)
	case reflect.TypeFor[[][]int64]():
		return valuesOf(triedTables)
	case reflect.TypeFor[impl.Chain]():
		return valuesOf(triedChains)
	case reflect.TypeFor[impl.Weighting]():
		return valuesOf(triedWeightings)
	case reflect.TypeFor[impl.Permuting]():
		return valuesOf(triedPermutings)
	case reflect.TypeFor[impl.Group]():
		return valuesOf(triedGroups)
	case reflect.TypeFor[impl.Likeness]():
		return valuesOf(triedLikenesses)
	case reflect.TypeFor[impl.Speech]():
		return valuesOf(triedSpeeches)
	}
	panic("no arguments for " + parameter.String())
}

func valuesOf[T any](list []T) []reflect.Value {
	values := []reflect.Value{}
	for _, one := range list {
		values = append(values, reflect.ValueOf(one))
	}
	return values
}

func sayValues(values []reflect.Value) string {
	all := []any{}
	for _, value := range values {
		all = append(all, value.Interface())
	}
	return say(all...)
}

// isBlank reports whether a value is a zero value, where an empty slice is as good as nil.
func isBlank(value reflect.Value) bool {
	switch value.Kind() {
	case reflect.Slice:
		return value.Len() == 0
	case reflect.Struct:
		for i := range value.NumField() {
			if !isBlank(value.Field(i)) {
				return false
			}
		}
		return true
	}
	return value.IsZero()
}

// failsWithValue reports whether a call failed, and a result other than the last one is not a zero value.
func failsWithValue(results []reflect.Value) bool {
	last := len(results) - 1
	if results[last].Kind() != reflect.Bool || results[last].Bool() {
		return false
	}
	return slices.ContainsFunc(results[:last], func(result reflect.Value) bool { return !isBlank(result) })
}

// checkCall returns what is wrong with a call with the given arguments, or nothing.
func checkCall(function reflect.Value, tried []reflect.Value) string {
	memories := &memoryList{}
	passed := []reflect.Value{}
	for _, value := range tried {
		passed = append(passed, memories.guarded(value))
	}
	before := memories.copied()
	first := function.Call(passed)
	text := sayValues(first)
	if failsWithValue(first) {
		return "fails with " + text
	}
	blocks := memories.blocks()
	for _, result := range first {
		blocks = append(blocks, blocksOf(result)...)
	}
	if shared(blocks) {
		return "two slices share memory in the result, or one of it and an argument"
	}
	if !memories.equal(before) {
		return "an argument has changed"
	}
	for _, result := range first {
		scribble(result)
	}
	if again := sayValues(function.Call(passed)); again != text {
		return "first " + text + ", then " + again
	}
	if fresh := sayValues(function.Call(tried)); fresh != text {
		return "first " + text + ", for an equal argument " + fresh
	}
	return ""
}

// shortText keeps a message readable where an argument is very long.
func shortText(s string) string {
	if len(s) > 200 {
		return s[:200] + fmt.Sprintf("... (%d bytes)", len(s))
	}
	return s
}

func tryAll(t *testing.T, function reflect.Value, tried arguments, chosen []reflect.Value) {
	if len(chosen) < function.Type().NumIn() {
		for _, value := range tried.of(function.Type().In(len(chosen))) {
			tryAll(t, function, tried, append(slices.Clip(chosen), value))
		}
		return
	}
	if wrong := checkCall(function, chosen); wrong != "" {
		t.Errorf("with %s: %s", shortText(sayValues(chosen)), shortText(wrong))
	}
}

// argumentsFor returns fewArguments where manyArguments would make too many calls.
func argumentsFor(function reflect.Type) arguments {
	calls := 1
	for i := range function.NumIn() {
		calls *= len(manyArguments.of(function.In(i)))
	}
	if calls > mostCalls {
		return fewArguments
	}
	return manyArguments
}

func TestPromise1CallsReturnAndAreEqual(t *testing.T) {
	for _, built := range builtFunctions {
		t.Run(built.name, func(t *testing.T) {
			t.Parallel()
			function := reflect.ValueOf(built.call)
			tryAll(t, function, argumentsFor(function.Type()), nil)
		})
	}
}

// A call must not depend on those before it either.
func TestPromise1CallsKeepNoState(t *testing.T) {
	calls := func() string {
		return say(impl.PowerOrder(turned(36), 7)) + say(impl.CheckOf(5, "a")) + say(impl.ReadList("1 2")) +
			say(impl.FirstUndetected(parity(3), impl.ErrSwap)) + say(impl.WordAt(parity(3), 1)) + say(impl.LeastDistance(parity(3))) +
			say(impl.KnownChain(impl.KnownHybrid, 3)) + say(impl.UnseenPairs(weighting(10, 10, 0, 3, 1), impl.ErrSwap, 0)) +
			say(impl.PermutingOf(weighting(3, 3, 0, 1, 2))) + say(impl.ReadWeighting("10/10/0/3 1")) +
			say(impl.FirstTotally(4)) + say(impl.CountTotally(3)) + say(impl.TurnTable(tableOf("012/201/120"), 4)) +
			say(impl.ChainClashes(tableOf("01/10"))) + say(impl.ReadTable("01/10")) +
			say(impl.DihedralGroup(5)) + say(impl.IdentityOf(groupOfText("10/01"))) + say(impl.SubgroupOf(groupOfText(quaternionText), []int64{6})) +
			say(impl.LeastComplete(groupOfText("01/10"))) + say(impl.LeastAntisymmetric(groupOfText("012/120/201"))) + say(impl.DihedralChain(4)) +
			say(impl.ScriptOf("1234", "1324")) + say(impl.NearWords("01", 2)) + say(impl.CandidatesFor(parity(3), "011")) +
			say(impl.CompletionsOf(parity(3), "01")) + say(impl.LikelySingles(sumChain(10, 2), "12")) + say(impl.LeastTyping([]string{"000", "011"})) +
			say(impl.ClearSymbols(likeness("BAC", "AB", "BC"))) + say(impl.FamiliesOf(likeness("0O1I", "0O", "1I"))) + say(impl.FoldWord(likeness("0O1I", "0O", "1I"), "OI0")) +
			say(impl.SpeakNumber(speech("bd", "ai"), 6, 2)) + say(impl.HearNumber(speech("bd", "ai"), "bi-da")) + say(impl.WordDistance("five", "nine")) +
			say(impl.LeastGap([]string{"five", "nine", "zero"})) + say(impl.HearWord([]string{"five", "nine", "zero"}, "vine", 1)) + say(impl.GroupWord("AB12", []int64{1, 3}))
	}
	before := calls()
	impl.PowerOrder(turned(5), 3)
	impl.CheckOf(77, "other")
	impl.ReadList("9 9 9")
	impl.FirstUndetected(sumChain(10, 4), impl.ErrTwin)
	impl.WordAt(sumChain(10, 4), 77)
	impl.LeastDistance(oneState(36, 9))
	impl.KnownChain(impl.KnownLuhn, 15)
	impl.UnseenPairs(weighting(10, 11, 0, 3, 2, 1), impl.ErrJump, 0)
	impl.PermutingOf(weighting(5, 5, 4, 3, 2))
	impl.ReadWeighting("36/36/35/35 0 35")
	impl.FirstTotally(5)
	impl.CountTotally(4)
	impl.TurnTable(tableOf("0123/1230/3012/2301"), 1)
	impl.ChainClashes(sumTable(36, 36, 5))
	impl.ReadTable("012/201/120")
	impl.DihedralGroup(4)
	impl.IdentityOf(groupOfText("012/120/201"))
	impl.SubgroupOf(groupOfText(quaternionText), []int64{1, 4})
	impl.LeastComplete(groupOfText("012/120/201"))
	impl.LeastAntisymmetric(groupOf(dihedralTable(5)))
	impl.DihedralChain(15)
	impl.ScriptOf("ZZZ", longestWord)
	impl.NearWords("012", 3)
	impl.CandidatesFor(sumChain(10, 4), "1300")
	impl.CompletionsOf(sumChain(36, 9), "01234567")
	impl.LikelySingles(oneState(10, 3), "555")
	impl.LeastTyping([]string{"ZZZ", "0", "111"})
	impl.ClearSymbols(likeness(mostAlike, pairsOf(mostAlike)[:40]...))
	impl.FamiliesOf(pathThrough(mostAlike, mostAlike))
	impl.FoldWord(likeness("OI0", "0O", "OI"), "I0O")
	impl.SpeakNumber(speech(mostFirstLetters, mostSecondLetters), 77777, 7)
	impl.HearNumber(speech("db", "ia"), "di-ba-ba")
	impl.WordDistance("seven", "")
	impl.LeastGap(lexiconOf(16))
	impl.HearWord([]string{"nine", "five"}, "five", 3)
	impl.GroupWord(longestWord, []int64{10, 10})
	expect(t, calls(), before)
}
