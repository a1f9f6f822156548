package impl

import (
	"bytes"
	"cmp"
	"strconv"
	"strings"
)

// Limits of chapter 1.
const (
	MaxBase    = 36
	MaxWord    = 20
	MaxValue   = 1000000000000000
	MaxModulus = 1000
	MaxItems   = 40
	CheckSize  = 32749
)

const (
	symbols     = "0123456789ABCDEFGHIJKLMNOPQRSTUVWXYZ"
	longestName = 8
	emptyList   = "none"
)

func within[T cmp.Ordered](x, least, most T) bool {
	return least <= x && x <= most
}

func isBase(base int64) bool {
	return within(base, 2, MaxBase)
}

func isValue(n int64) bool {
	return within(n, -MaxValue, MaxValue)
}

// areLetters reports whether s has only letters.
func areLetters(s string) bool {
	for _, letter := range s {
		if !within(letter, 'a', 'z') {
			return false
		}
	}
	return true
}

// IsName reports whether s is a name.
func IsName(s string) bool {
	return within(len(s), 1, longestName) && areLetters(s)
}

// Decimal returns n in decimal.
func Decimal(n int64) string {
	return strconv.FormatInt(n, 10)
}

// ReadDecimal returns the number with the given decimal text.
func ReadDecimal(s string) (int64, bool) {
	n, err := strconv.ParseInt(s, 10, 64)
	// ParseInt also reads a plus sign, zeros in front and -0, which Decimal never writes.
	if err != nil || !isValue(n) || Decimal(n) != s {
		return 0, false
	}
	return n, true
}

// SymbolOf returns the symbol of a digit.
func SymbolOf(n int64) (string, bool) {
	if !within(n, 0, MaxBase-1) {
		return "", false
	}
	return symbols[n : n+1], true
}

// digitOf returns -1 for what is no symbol, which is no digit of any base.
func digitOf(symbol rune) int64 {
	return int64(strings.IndexRune(symbols, symbol))
}

// IsWordOf reports whether s is a word over a base.
func IsWordOf(s string, base int64) bool {
	_, ok := DigitsOf(s, base)
	return ok
}

// DigitsOf returns the digits of a word.
func DigitsOf(s string, base int64) ([]int64, bool) {
	if !isBase(base) || len(s) > MaxWord {
		return nil, false
	}
	digits := make([]int64, 0, len(s))
	for _, symbol := range s {
		digit := digitOf(symbol)
		if !within(digit, 0, base-1) {
			return nil, false
		}
		digits = append(digits, digit)
	}
	return digits, true
}

// WordOf returns the word with some digits.
func WordOf(digits []int64, base int64) (string, bool) {
	if !isBase(base) || len(digits) > MaxWord {
		return "", false
	}
	var word bytes.Buffer
	for _, digit := range digits {
		if !within(digit, 0, base-1) {
			return "", false
		}
		word.WriteByte(symbols[digit])
	}
	return word.String(), true
}

// RemainderOf returns a remainder that is not negative.
func RemainderOf(a, m int64) (int64, bool) {
	if !isValue(a) || !within(m, 1, MaxValue) {
		return 0, false
	}
	remainder := a % m
	if remainder < 0 {
		remainder += m
	}
	return remainder, true
}

// GcdOf returns the greatest common divisor.
func GcdOf(a, b int64) (int64, bool) {
	if !within(a, 0, MaxValue) || !within(b, 0, MaxValue) {
		return 0, false
	}
	for b != 0 {
		a, b = b, a%b
	}
	return a, true
}

// InverseOf returns the inverse of a modulo m.
func InverseOf(a, m int64) (int64, bool) {
	if !within(m, 2, MaxModulus) || !within(a, 0, m-1) {
		return 0, false
	}
	for x := range m {
		if a*x%m == 1 {
			return x, true
		}
	}
	return 0, false
}

// WordRemainder returns the remainder of the number of a word.
func WordRemainder(s string, base, m int64) (int64, bool) {
	digits, ok := DigitsOf(s, base)
	if !ok || !within(m, 1, MaxModulus) {
		return 0, false
	}
	remainder := int64(0)
	// The number itself can exceed an int64, so each step keeps only the remainder.
	for _, digit := range digits {
		remainder = (remainder*base + digit) % m
	}
	return remainder, true
}

// ordering has the methods of an order; all but valid require a valid one.
type ordering []int64

func (f ordering) valid() bool {
	if !within(len(f), 1, MaxBase) {
		return false
	}
	var seen [MaxBase]bool
	for _, x := range f {
		if !within(x, 0, int64(len(f))-1) || seen[x] {
			return false
		}
		seen[x] = true
	}
	return true
}

func (f ordering) after(g ordering) ordering {
	composed := make(ordering, len(g))
	for i, x := range g {
		composed[i] = f[x]
	}
	return composed
}

func (f ordering) inverse() ordering {
	inverse := make(ordering, len(f))
	for i, x := range f {
		inverse[x] = int64(i)
	}
	return inverse
}

func (f ordering) cycleFrom(start int64) []int64 {
	cycle := []int64{start}
	for x := f[start]; x != start; x = f[x] {
		cycle = append(cycle, x)
	}
	return cycle
}

func (f ordering) cycles() [][]int64 {
	var cycles [][]int64
	var seen [MaxBase]bool
	for i := range int64(len(f)) {
		if seen[i] {
			continue
		}
		cycle := f.cycleFrom(i)
		for _, x := range cycle {
			seen[x] = true
		}
		cycles = append(cycles, cycle)
	}
	return cycles
}

// power goes n steps along each cycle, so that a great n costs no more than a small one.
func (f ordering) power(n int64) ordering {
	power := make(ordering, len(f))
	for _, cycle := range f.cycles() {
		for i, x := range cycle {
			power[x] = cycle[(int64(i)+n)%int64(len(cycle))]
		}
	}
	return power
}

// IsOrder reports whether order is an order.
func IsOrder(order []int64) bool {
	return ordering(order).valid()
}

// ComposeOrders returns what g and then f do.
func ComposeOrders(f, g []int64) ([]int64, bool) {
	if len(f) != len(g) || !IsOrder(f) || !IsOrder(g) {
		return nil, false
	}
	return ordering(f).after(g), true
}

// InverseOrder returns the inverse of an order.
func InverseOrder(f []int64) ([]int64, bool) {
	if !IsOrder(f) {
		return nil, false
	}
	return ordering(f).inverse(), true
}

// CyclesOf returns the cycles of an order.
func CyclesOf(f []int64) ([][]int64, bool) {
	if !IsOrder(f) {
		return nil, false
	}
	return ordering(f).cycles(), true
}

// PowerOrder returns a power of an order.
func PowerOrder(f []int64, n int64) ([]int64, bool) {
	if !IsOrder(f) || !within(n, 0, MaxValue) {
		return nil, false
	}
	return ordering(f).power(n), true
}

// ListText returns the text of a list.
func ListText(list []int64) (string, bool) {
	if len(list) > MaxItems {
		return "", false
	}
	if len(list) == 0 {
		return emptyList, true
	}
	var text bytes.Buffer
	for i, n := range list {
		if !isValue(n) {
			return "", false
		}
		if i > 0 {
			text.WriteByte(' ')
		}
		text.WriteString(Decimal(n))
	}
	return text.String(), true
}

// ReadList returns the list with the given text.
func ReadList(s string) ([]int64, bool) {
	if s == emptyList {
		return nil, true
	}
	// One part more than allowed is enough to see that a text is too long.
	parts := strings.SplitN(s, " ", MaxItems+1)
	if len(parts) > MaxItems {
		return nil, false
	}
	list := make([]int64, 0, len(parts))
	for _, part := range parts {
		n, ok := ReadDecimal(part)
		if !ok {
			return nil, false
		}
		list = append(list, n)
	}
	return list, true
}

// CheckOf returns the check number of a text.
func CheckOf(start int64, s string) (int64, bool) {
	if !within(start, 0, CheckSize-1) {
		return 0, false
	}
	check := start
	// A range over the string would go over runes, and the check number is one of bytes.
	for i := range len(s) {
		check = (139*check + int64(s[i]) + 11) % CheckSize
	}
	return check, true
}
