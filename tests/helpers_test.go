package tests

import (
	"fmt"
	"strings"
	"testing"
)

// say writes the results of a call on one line; a nil and an empty list are written alike, and a list of one empty text is not.
func say(results ...any) string {
	words := []string{}
	for _, result := range results {
		switch result.(type) {
		case string, []string:
			words = append(words, fmt.Sprintf("%q", result))
		default:
			words = append(words, fmt.Sprint(result))
		}
	}
	return strings.Join(words, " ")
}

func expect(t *testing.T, got, want string) {
	t.Helper()
	if got != want {
		t.Errorf("got %s, want %s", got, want)
	}
}

func expectAll(t *testing.T, want string, got ...string) {
	t.Helper()
	for i, one := range got {
		if one != want {
			t.Errorf("case %d: got %s, want %s", i, one, want)
		}
	}
}

// countedList has the numbers from 0 to n - 1.
func countedList(n int) []int64 {
	list := make([]int64, n)
	for i := range list {
		list[i] = int64(i)
	}
	return list
}

// turned is the order of n things that takes each one to the next one, and the last one to 0.
func turned(n int) []int64 {
	list := countedList(n)
	return append(list[1:], 0)
}
