package tests

import (
	"fmt"
	"math"
	"reflect"
	"slices"
	"strings"
	"testing"

	"loop.example/g01130/impl"
)

const (
	filler  = -4321
	scratch = -9876
)

var builtFunctions = []struct {
	name string
	call any
}{
	{"IsName", impl.IsName},
	{"Decimal", impl.Decimal},
	{"ReadDecimal", impl.ReadDecimal},
	{"SymbolOf", impl.SymbolOf},
	{"IsWordOf", impl.IsWordOf},
	{"DigitsOf", impl.DigitsOf},
	{"WordOf", impl.WordOf},
	{"RemainderOf", impl.RemainderOf},
	{"GcdOf", impl.GcdOf},
	{"InverseOf", impl.InverseOf},
	{"WordRemainder", impl.WordRemainder},
	{"IsOrder", impl.IsOrder},
	{"ComposeOrders", impl.ComposeOrders},
	{"InverseOrder", impl.InverseOrder},
	{"CyclesOf", impl.CyclesOf},
	{"PowerOrder", impl.PowerOrder},
	{"ListText", impl.ListText},
	{"ReadList", impl.ReadList},
	{"CheckOf", impl.CheckOf},
}

var triedNumbers = []int64{
	math.MinInt64, -impl.MaxValue - 1, -impl.MaxValue, -1, 0, 1, 2, 3, 10, 35, 36, 37, 999, 1000, 1001,
	impl.CheckSize - 1, impl.CheckSize, impl.MaxValue, impl.MaxValue + 1, math.MaxInt64,
}

var triedTexts = []string{
	"", "0", "00", "7", "-7", "-0", "+7", "007", "1A", "1a", "Z", "luhn", "abcdefgh", "abcdefghi", "none", "None",
	"1 2", "1  2", " 1", "1 ", "-", " ", "\x00", "\xff", "\xc3\x28", "é", "Ａ", "1000000000000000", "1000000000000001",
	"9223372036854775808", strings.Repeat("Z", 20), strings.Repeat("Z", 21), strings.Repeat("1 ", 40) + "1",
	strings.Repeat("0", 100000), strings.Repeat(" ", 100000),
}

var triedLists = [][]int64{
	nil, {}, {0}, {1}, {0, 1}, {1, 0}, {0, 0}, {1, 2, 0}, {2, 1, 0}, {1, 2}, {-1, 0}, {0, 2, 1, 4, 5, 3}, {35, 36},
	{math.MinInt64, math.MaxInt64}, {impl.MaxValue, -impl.MaxValue}, {impl.MaxValue + 1}, {0, -impl.MaxValue - 1},
	turned(20), turned(21), turned(36), turned(37), make([]int64, 40), make([]int64, 41), make([]int64, 100000),
}

// triedArguments returns what to pass for each type of a parameter.
func triedArguments(of reflect.Type) []reflect.Value {
	var tried []reflect.Value
	switch of {
	case reflect.TypeFor[int64]():
		for _, n := range triedNumbers {
			tried = append(tried, reflect.ValueOf(n))
		}
	case reflect.TypeFor[string]():
		for _, s := range triedTexts {
			tried = append(tried, reflect.ValueOf(s))
		}
	case reflect.TypeFor[[]int64]():
		for _, list := range triedLists {
			tried = append(tried, reflect.ValueOf(list))
		}
	default:
		panic("no arguments for " + of.String())
	}
	return tried
}

// guarded returns a copy of a list with memory in front of it and unused capacity behind it, and all of this memory.
func guarded(list []int64) (copied, memory []int64) {
	memory = append([]int64{filler, filler}, list...)
	memory = append(memory, filler, filler, filler)
	return memory[2 : 2+len(list)], memory
}

// scribble writes over all memory of a result; it reports whether no two of its lists share any.
func scribble(result reflect.Value) bool {
	switch lists := result.Interface().(type) {
	case []int64:
		fill(lists[:cap(lists)], scratch)
	case [][]int64:
		for i, list := range lists {
			fill(list[:cap(list)], int64(i))
		}
		for i, list := range lists {
			if slices.ContainsFunc(list[:cap(list)], func(x int64) bool { return x != int64(i) }) {
				return false
			}
		}
	}
	return true
}

func fill(list []int64, with int64) {
	for i := range list {
		list[i] = with
	}
}

func sayValues(values []reflect.Value) string {
	all := []any{}
	for _, value := range values {
		all = append(all, value.Interface())
	}
	return say(all...)
}

// failsWithValue reports whether a call failed, and a result other than the last one is not a zero value.
func failsWithValue(results []reflect.Value) bool {
	last := len(results) - 1
	if results[last].Kind() != reflect.Bool || results[last].Bool() {
		return false
	}
	return slices.ContainsFunc(results[:last], func(result reflect.Value) bool {
		if result.Kind() == reflect.Slice {
			return result.Len() > 0
		}
		return !result.IsZero()
	})
}

// checkCall returns what is wrong with a call with the given arguments, or nothing.
func checkCall(function reflect.Value, tried []reflect.Value) string {
	passed := slices.Clone(tried)
	var memories, copies [][]int64
	for i, value := range tried {
		if list, ok := value.Interface().([]int64); ok && list != nil {
			view, memory := guarded(list)
			passed[i] = reflect.ValueOf(view)
			memories = append(memories, memory)
			copies = append(copies, slices.Clone(memory))
		}
	}
	first := function.Call(passed)
	text := sayValues(first)
	if failsWithValue(first) {
		return "fails with " + text
	}
	for _, result := range first {
		if !scribble(result) {
			return "lists of the result share memory"
		}
	}
	for i := range memories {
		if !slices.Equal(memories[i], copies[i]) {
			return "an argument has changed, or a result shares its memory"
		}
	}
	if again := sayValues(function.Call(passed)); again != text {
		return "first " + text + ", then " + again
	}
	if fresh := sayValues(function.Call(tried)); fresh != text {
		return "first " + text + ", for an equal argument " + fresh
	}
	return ""
}

// shortText keeps a message readable where an argument is very long.
func shortText(s string) string {
	if len(s) > 200 {
		return s[:200] + fmt.Sprintf("... (%d bytes)", len(s))
	}
	return s
}

func tryAll(t *testing.T, function reflect.Value, chosen []reflect.Value) {
	if len(chosen) < function.Type().NumIn() {
		for _, value := range triedArguments(function.Type().In(len(chosen))) {
			tryAll(t, function, append(slices.Clip(chosen), value))
		}
		return
	}
	if wrong := checkCall(function, chosen); wrong != "" {
		t.Errorf("with %s: %s", shortText(sayValues(chosen)), shortText(wrong))
	}
}

func TestPromise1CallsReturnAndAreEqual(t *testing.T) {
	for _, built := range builtFunctions {
		t.Run(built.name, func(t *testing.T) {
			tryAll(t, reflect.ValueOf(built.call), nil)
		})
	}
}

// A call must not depend on those before it either.
func TestPromise1CallsKeepNoState(t *testing.T) {
	before := say(impl.PowerOrder(turned(36), 7)) + say(impl.CheckOf(5, "a")) + say(impl.ReadList("1 2"))
	impl.PowerOrder(turned(5), 3)
	impl.CheckOf(77, "other")
	impl.ReadList("9 9 9")
	after := say(impl.PowerOrder(turned(36), 7)) + say(impl.CheckOf(5, "a")) + say(impl.ReadList("1 2"))
	expect(t, after, before)
}
