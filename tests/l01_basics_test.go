package tests

import (
	"math"
	"math/big"
	"slices"
	"strconv"
	"strings"
	"testing"

	"loop.example/g01130/impl"
)

const allSymbols = "0123456789ABCDEFGHIJKLMNOPQRSTUVWXYZ"

func TestPromise2ExamplesOfTheChapter(t *testing.T) {
	expect(t, say(impl.DigitsOf("1A", 16)), `[1 10] true`)
	expect(t, say(impl.WordRemainder("1A", 16, 7)), `5 true`)
	expect(t, say(impl.InverseOf(3, 10)), `7 true`)
	expect(t, say(impl.InverseOf(2, 10)), `0 false`)
	expect(t, say(impl.CyclesOf([]int64{1, 2, 0})), `[[0 1 2]] true`)
	expect(t, say(impl.PowerOrder([]int64{1, 2, 0}, 2)), `[2 0 1] true`)
}

func TestPromise2Names(t *testing.T) {
	for _, s := range []string{"a", "z", "luhn", "abcdefgh", "zzzzzzzz"} {
		if !impl.IsName(s) {
			t.Errorf("%q is a name", s)
		}
	}
	for _, s := range []string{"", "abcdefghi", "A", "aB", "a1", "a b", " a", "a ", "a\n", "a-b", "`", "{", "é", "aé", "\xff", "a\x00"} {
		if impl.IsName(s) {
			t.Errorf("%q is no name", s)
		}
	}
}

func TestPromise2DecimalTexts(t *testing.T) {
	expect(t, impl.Decimal(0), "0")
	expect(t, impl.Decimal(-1), "-1")
	expect(t, impl.Decimal(1000), "1000")
	expect(t, impl.Decimal(math.MaxInt64), "9223372036854775807")
	expect(t, impl.Decimal(math.MinInt64), "-9223372036854775808")
	expect(t, say(impl.ReadDecimal("0")), `0 true`)
	expect(t, say(impl.ReadDecimal("-7")), `-7 true`)
	expect(t, say(impl.ReadDecimal("1000000000000000")), `1000000000000000 true`)
	expect(t, say(impl.ReadDecimal("-1000000000000000")), `-1000000000000000 true`)
	for _, s := range []string{
		"", "-", "+", "-0", "+0", "00", "+7", "07", "007", "-07", "--7", "7-", " 7", "7 ", "7\n", "- 7", "1_000", "0x1", "1e3",
		"7.0", "A", "none", "\x00", "７", "1000000000000001", "-1000000000000001", "9223372036854775808",
		"18446744073709551617", "0000000000000000000000000000007", strings.Repeat("9", 1000),
	} {
		expect(t, say(impl.ReadDecimal(s)), `0 false`)
	}
}

func TestPromise2DecimalsAreReadBack(t *testing.T) {
	numbers := []int64{impl.MaxValue, impl.MaxValue - 1, -impl.MaxValue, 1 - impl.MaxValue}
	for n := int64(-1100); n <= 1100; n++ {
		numbers = append(numbers, n, n*9973, n*900000000001)
	}
	for _, n := range numbers {
		text := impl.Decimal(n)
		expect(t, text, strconv.FormatInt(n, 10))
		expect(t, say(impl.ReadDecimal(text)), say(n, true))
		expect(t, say(impl.ReadDecimal("0"+text)), `0 false`)
		expect(t, say(impl.ReadDecimal("+"+text)), `0 false`)
	}
}

func TestPromise2Symbols(t *testing.T) {
	for n := range int64(36) {
		expect(t, say(impl.SymbolOf(n)), say(allSymbols[n:n+1], true))
	}
	for _, n := range []int64{-1, 36, math.MinInt64, math.MaxInt64, 48, 65} {
		expect(t, say(impl.SymbolOf(n)), `"" false`)
	}
}

// digitsOfByte has what DigitsOf returns for one byte behind some zeros, as the order of symbols tells.
func digitsOfByte(zeros int, b byte, base int64) string {
	digit := int64(strings.IndexByte(allSymbols, b))
	if digit < 0 || digit >= base {
		return `[] false`
	}
	return say(append(make([]int64, zeros), digit), true)
}

func TestPromise2WordsOfEveryByteAndBase(t *testing.T) {
	for base := int64(2); base <= 36; base++ {
		for b := range 256 {
			s := string([]byte{byte(b)})
			want := digitsOfByte(0, byte(b), base)
			expect(t, say(impl.DigitsOf(s, base)), want)
			expect(t, say(impl.DigitsOf("0"+s, base)), digitsOfByte(1, byte(b), base))
			expect(t, say(impl.IsWordOf(s, base)), say(strings.HasSuffix(want, "true")))
		}
	}
}

func TestPromise2WordsAtTheLimits(t *testing.T) {
	for _, base := range []int64{2, 10, 36} {
		expect(t, say(impl.DigitsOf("", base)), `[] true`)
		expect(t, say(impl.WordOf(nil, base)), `"" true`)
		expect(t, say(impl.WordOf([]int64{}, base)), `"" true`)
		expect(t, say(impl.WordRemainder("", base, 7)), `0 true`)
		expect(t, say(impl.IsWordOf("", base)), `true`)
		longest := strings.Repeat(allSymbols[base-1:base], 20)
		expect(t, say(impl.IsWordOf(longest, base)), `true`)
		expect(t, say(impl.IsWordOf("0"+longest, base)), `false`)
		expect(t, say(impl.DigitsOf("0"+longest, base)), `[] false`)
		expect(t, say(impl.WordRemainder("0"+longest, base, 7)), `0 false`)
		digits, _ := impl.DigitsOf(longest, base)
		expect(t, say(impl.WordOf(digits, base)), say(longest, true))
		expect(t, say(impl.WordOf(append(digits, 0), base)), `"" false`)
		expect(t, say(impl.WordOf([]int64{0, base}, base)), `"" false`)
		expect(t, say(impl.WordOf([]int64{0, base - 1}, base)), say("0"+allSymbols[base-1:base], true))
	}
}

func TestPromise2WordsThatAreNone(t *testing.T) {
	for _, base := range []int64{math.MinInt64, -2, 0, 1, 37, 256, math.MaxInt64} {
		expect(t, say(impl.IsWordOf("", base), impl.IsWordOf("0", base)), `false false`)
		expectAll(t, `[] false`, say(impl.DigitsOf("", base)), say(impl.DigitsOf("0", base)))
		expectAll(t, `"" false`, say(impl.WordOf(nil, base)), say(impl.WordOf([]int64{0}, base)))
		expectAll(t, `0 false`, say(impl.WordRemainder("", base, 7)), say(impl.WordRemainder("0", base, 7)))
	}
	for _, s := range []string{"a", "1a", "-1", "+1", " 1", "1 ", "1\n", "é", "０", "\xff", "1\x00", "@", "[", "/", ":"} {
		expect(t, say(impl.IsWordOf(s, 36)), `false`)
		expect(t, say(impl.DigitsOf(s, 36)), `[] false`)
		expect(t, say(impl.WordRemainder(s, 36, 7)), `0 false`)
	}
	for _, digits := range [][]int64{{-1}, {36}, {0, 36}, {1, -1, 1}, {math.MinInt64}, {math.MaxInt64}, {48}} {
		expect(t, say(impl.WordOf(digits, 36)), `"" false`)
	}
}

func TestPromise2ZerosInFrontOfWordsStay(t *testing.T) {
	expect(t, say(impl.DigitsOf("007", 10)), `[0 0 7] true`)
	expect(t, say(impl.DigitsOf("000", 2)), `[0 0 0] true`)
	expect(t, say(impl.WordOf([]int64{0, 0, 7}, 10)), `"007" true`)
	expect(t, say(impl.WordOf([]int64{0, 0}, 10)), `"00" true`)
	expect(t, say(impl.WordRemainder("007", 10, 5)), `2 true`)
	expect(t, say(impl.WordRemainder("00000000000000000000", 36, 1000)), `0 true`)
	expect(t, say(impl.WordRemainder("00000000000000000011", 10, 1000)), `11 true`)
	expect(t, say(impl.WordRemainder("000000000000000000011", 10, 1000)), `0 false`)
}

// someWords has words of each length over a base, each with zeros in front of it, too.
func someWords(base int64) []string {
	words := []string{""}
	for length := 1; length <= impl.MaxWord; length++ {
		for shift := range 5 {
			word := make([]byte, length)
			for i := range word {
				word[i] = allSymbols[int64(i*i*7+i*shift+shift*11)%base]
			}
			zeros := length / 3
			words = append(words, string(word), strings.Repeat("0", zeros)+string(word[zeros:]))
		}
	}
	return words
}

func TestPromise2WordsAreThoseOfTheirDigits(t *testing.T) {
	for base := int64(2); base <= 36; base++ {
		for _, word := range someWords(base) {
			digits, ok := impl.DigitsOf(word, base)
			if !ok || len(digits) != len(word) {
				t.Fatalf("digits of %q over %d: %v", word, base, digits)
			}
			for i, digit := range digits {
				expect(t, say(impl.SymbolOf(digit)), say(word[i:i+1], true))
			}
			expect(t, say(impl.WordOf(digits, base)), say(word, true))
		}
	}
}

func TestPromise2RemaindersOfWordsAreThoseOfTheirNumbers(t *testing.T) {
	for base := int64(2); base <= 36; base++ {
		for _, word := range someWords(base) {
			number, _ := new(big.Int).SetString("0"+word, int(base))
			for _, m := range []int64{1, 2, 7, 10, 97, 997, 1000} {
				want := new(big.Int).Mod(number, big.NewInt(m)).Int64()
				expect(t, say(impl.WordRemainder(word, base, m)), say(want, true))
			}
		}
	}
	for _, m := range []int64{math.MinInt64, -7, -1, 0, 1001, math.MaxInt64} {
		expectAll(t, `0 false`, say(impl.WordRemainder("12", 10, m)), say(impl.WordRemainder("", 10, m)))
	}
}

func TestPromise2Remainders(t *testing.T) {
	expect(t, say(impl.RemainderOf(7, 3)), `1 true`)
	expect(t, say(impl.RemainderOf(-7, 3)), `2 true`)
	expect(t, say(impl.RemainderOf(-6, 3)), `0 true`)
	expect(t, say(impl.RemainderOf(-7, 1)), `0 true`)
	expect(t, say(impl.RemainderOf(0, 1)), `0 true`)
	expect(t, say(impl.RemainderOf(impl.MaxValue, impl.MaxValue)), `0 true`)
	expect(t, say(impl.RemainderOf(-impl.MaxValue, impl.MaxValue)), `0 true`)
	expect(t, say(impl.RemainderOf(-1, impl.MaxValue)), `999999999999999 true`)
	expect(t, say(impl.RemainderOf(-impl.MaxValue, 7)), `1 true`)
	for _, pair := range [][2]int64{
		{impl.MaxValue + 1, 3}, {-impl.MaxValue - 1, 3}, {math.MinInt64, 3}, {math.MaxInt64, 3}, {math.MinInt64, -1},
		{1, 0}, {1, -1}, {1, -3}, {1, impl.MaxValue + 1}, {1, math.MinInt64},
	} {
		expect(t, say(impl.RemainderOf(pair[0], pair[1])), `0 false`)
	}
	for a := int64(-50); a <= 50; a++ {
		for m := int64(1); m <= 20; m++ {
			r, ok := impl.RemainderOf(a, m)
			if !ok || r < 0 || r >= m || (a-r)%m != 0 {
				t.Errorf("remainder of %d by %d: %d %v", a, m, r, ok)
			}
		}
	}
}

// greatestDivisor tries all numbers.
func greatestDivisor(a, b int64) int64 {
	for d := max(a, b); d > 1; d-- {
		if a%d == 0 && b%d == 0 {
			return d
		}
	}
	return min(1, max(a, b))
}

func TestPromise2GreatestCommonDivisors(t *testing.T) {
	for a := range int64(61) {
		for b := range int64(61) {
			expect(t, say(impl.GcdOf(a, b)), say(greatestDivisor(a, b), true))
		}
	}
	expect(t, say(impl.GcdOf(0, 0)), `0 true`)
	expect(t, say(impl.GcdOf(impl.MaxValue, 0)), `1000000000000000 true`)
	expect(t, say(impl.GcdOf(0, impl.MaxValue)), `1000000000000000 true`)
	expect(t, say(impl.GcdOf(impl.MaxValue, impl.MaxValue-1)), `1 true`)
	expect(t, say(impl.GcdOf(impl.MaxValue, impl.MaxValue/1024)), `976562500000 true`)
	for _, bad := range []int64{-1, math.MinInt64, impl.MaxValue + 1, math.MaxInt64} {
		expectAll(t, `0 false`, say(impl.GcdOf(bad, 6)), say(impl.GcdOf(6, bad)), say(impl.GcdOf(bad, bad)))
	}
}

func TestPromise2InversesExistAsDivisorsTell(t *testing.T) {
	moduli := []int64{499, 512, 600, 961, 997, 998, 999, 1000}
	for m := int64(2); m <= 120; m++ {
		moduli = append(moduli, m)
	}
	for _, m := range moduli {
		for a := range m {
			x, ok := impl.InverseOf(a, m)
			divisor, _ := impl.GcdOf(a, m)
			if ok != (divisor == 1) || !ok && x != 0 {
				t.Errorf("inverse of %d modulo %d: %d %v, with the divisor %d", a, m, x, ok, divisor)
			}
			if ok && (x < 0 || x >= m || a*x%m != 1) {
				t.Errorf("inverse of %d modulo %d: %d", a, m, x)
			}
		}
	}
	for _, pair := range [][2]int64{
		{0, 1}, {0, 0}, {1, 0}, {1, -5}, {0, 2}, {2, 2}, {-1, 10}, {10, 10}, {11, 10}, {1, 1001}, {1000, 1000}, {3, math.MaxInt64},
		{math.MinInt64, 10}, {math.MaxInt64, 10},
	} {
		expect(t, say(impl.InverseOf(pair[0], pair[1])), `0 false`)
	}
}

func TestPromise2TextsOfLists(t *testing.T) {
	expect(t, say(impl.ListText(nil)), `"none" true`)
	expect(t, say(impl.ListText([]int64{})), `"none" true`)
	expect(t, say(impl.ListText([]int64{0})), `"0" true`)
	expect(t, say(impl.ListText([]int64{3, -1, 0, 0})), `"3 -1 0 0" true`)
	expect(t, say(impl.ListText([]int64{impl.MaxValue, -impl.MaxValue})), `"1000000000000000 -1000000000000000" true`)
	for _, list := range [][]int64{
		{impl.MaxValue + 1}, {-impl.MaxValue - 1}, {math.MinInt64}, {1, 2, math.MaxInt64}, make([]int64, 41), make([]int64, 1000),
	} {
		expect(t, say(impl.ListText(list)), `"" false`)
	}
	for _, list := range [][]int64{nil, {0}, {-1}, {0, 0, 0}, {7, 7}, {impl.MaxValue, -impl.MaxValue}, countedList(39), make([]int64, 40)} {
		text, ok := impl.ListText(list)
		expect(t, say(ok), `true`)
		expect(t, say(impl.ReadList(text)), say(list, true))
	}
}

func TestPromise2TextsThatAreNoLists(t *testing.T) {
	expect(t, say(impl.ReadList("none")), `[] true`)
	expect(t, say(impl.ReadList("0")), `[0] true`)
	expect(t, say(impl.ReadList("3 -1")), `[3 -1] true`)
	expect(t, say(impl.ReadList("0 0 0")), `[0 0 0] true`)
	expect(t, say(impl.ReadList(strings.Repeat("1 ", 39)+"1")), say(slices.Repeat([]int64{1}, 40), true))
	for _, s := range []string{
		"", " ", "  ", "None", "none ", " none", "none none", "none 1", "1 none", "1  2", " 1", "1 ", " 1 2", "1 2 ", "1\t2", "1,2",
		"1\n", "01", "1 02", "00", "-0", "1 -0", "+1", "1 +2", "1 - 2", "--1", "a", "1 a", "[1]", "1000000000000001", "1 -1000000000000001",
		"1 9223372036854775808", strings.Repeat("1 ", 40) + "1", strings.Repeat("1 ", 40), strings.Repeat(" ", 100),
	} {
		expect(t, say(impl.ReadList(s)), `[] false`)
	}
}

func TestPromise2CheckNumbers(t *testing.T) {
	expect(t, say(impl.CheckOf(0, "")), `0 true`)
	expect(t, say(impl.CheckOf(32748, "")), `32748 true`)
	expect(t, say(impl.CheckOf(0, "a")), `108 true`)
	expect(t, say(impl.CheckOf(1, "a")), `247 true`)
	expect(t, say(impl.CheckOf(0, "ab")), `15121 true`)
	expect(t, say(impl.CheckOf(0, "\x00")), `11 true`)
	expect(t, say(impl.CheckOf(0, "\xff")), `266 true`)
	expect(t, say(impl.CheckOf(32748, "\x00")), `32621 true`)
	for _, start := range []int64{math.MinInt64, -1, 32749, 32750, math.MaxInt64} {
		expectAll(t, `0 false`, say(impl.CheckOf(start, "")), say(impl.CheckOf(start, "a")))
	}
}

// A text goes on where the one before it ended, byte by byte, also within a rune.
func TestPromise2CheckNumbersGoOn(t *testing.T) {
	text := "9é\xff\x00 \nZ~" + strings.Repeat("weight", 50)
	for _, start := range []int64{0, 1, 20000, 32748} {
		whole, _ := impl.CheckOf(start, text)
		want := start
		for i := range len(text) {
			part, _ := impl.CheckOf(start, text[:i])
			expect(t, say(part), say(want))
			expect(t, say(impl.CheckOf(part, text[i:])), say(whole, true))
			want = (want*139 + int64(text[i]) + 11) % 32749
		}
		expect(t, say(whole), say(want))
	}
}
