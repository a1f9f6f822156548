package tests

import (
	"reflect"
	"testing"

	"loop.example/g01130/impl"
)

// An untyped constant is an int here, so a constant with a type of its own differs, too.
func TestConstantsOfAllChapters(t *testing.T) {
	constants := []struct {
		name string
		got  any
		want int
	}{
		{"MaxBase", impl.MaxBase, 36},
		{"MaxWord", impl.MaxWord, 20},
		{"MaxValue", impl.MaxValue, 1000000000000000},
		{"MaxModulus", impl.MaxModulus, 1000},
		{"MaxItems", impl.MaxItems, 40},
		{"CheckSize", impl.CheckSize, 32749},
		{"MaxStates", impl.MaxStates, 36},
		{"MaxTables", impl.MaxTables, 20},
		{"MaxWords", impl.MaxWords, 1000000000000000},
		{"ErrSingle", impl.ErrSingle, 0},
		{"ErrSwap", impl.ErrSwap, 1},
		{"ErrJump", impl.ErrJump, 2},
		{"ErrTwin", impl.ErrTwin, 3},
		{"ErrJumpTwin", impl.ErrJumpTwin, 4},
		{"ErrPhonetic", impl.ErrPhonetic, 5},
		{"KnownLuhn", impl.KnownLuhn, 0},
		{"KnownTrade", impl.KnownTrade, 1},
		{"KnownBook", impl.KnownBook, 2},
		{"KnownPowers", impl.KnownPowers, 3},
		{"KnownHybrid", impl.KnownHybrid, 4},
		{"MaxOrder", impl.MaxOrder, 36},
		{"MaxSearched", impl.MaxSearched, 5},
		{"MaxListed", impl.MaxListed, 4},
		{"MaxGroup", impl.MaxGroup, 10},
		{"MaxCompared", impl.MaxCompared, 100},
		{"MaxTyped", impl.MaxTyped, 12},
		{"MaxSymbols", impl.MaxSymbols, 18},
		{"MaxPairs", impl.MaxPairs, 40},
		{"MaxSyllables", impl.MaxSyllables, 8},
		{"MaxLexicon", impl.MaxLexicon, 16},
		{"MaxHeard", impl.MaxHeard, 20},
		{"MaxGroups", impl.MaxGroups, 10},
		{"MaxElements", impl.MaxElements, 10},
		{"MaxModules", impl.MaxModules, 20},
		{"MaxPatterns", impl.MaxPatterns, 36},
		{"MaxStripe", impl.MaxStripe, 100000},
		{"MaxStripes", impl.MaxStripes, 400},
		{"MaxSearch", impl.MaxSearch, 20000},
		{"MaxCost", impl.MaxCost, 1000},
		{"MaxPairBase", impl.MaxPairBase, 5},
		{"MaxApart", impl.MaxApart, 6},
		{"MaxIssued", impl.MaxIssued, 40},
		{"MaxTried", impl.MaxTried, 2000},
		{"StatusNone", impl.StatusNone, 0},
		{"StatusIssued", impl.StatusIssued, 1},
		{"StatusRevoked", impl.StatusRevoked, 2},
		{"MaxNamed", impl.MaxNamed, 6},
		{"MaxScript", impl.MaxScript, 4000},
	}
	for _, c := range constants {
		if c.got != any(c.want) {
			t.Errorf("%s is %T %v, want int %d", c.name, c.got, c.got, c.want)
		}
	}
}

func fieldsOf(value any) string {
	text := ""
	of := reflect.TypeOf(value)
	for i := range of.NumField() {
		text += of.Field(i).Name + " " + of.Field(i).Type.String() + "; "
	}
	return text
}

func TestTypesOfAllChapters(t *testing.T) {
	expect(t, fieldsOf(impl.Chain{}), "Base int64; States int64; Start int64; End int64; Tables [][][]int64; Places []int64; ")
	expect(t, fieldsOf(impl.Weighting{}), "Base int64; Modulus int64; Target int64; Weights []int64; ")
	expect(t, fieldsOf(impl.Permuting{}), "Base int64; Target int64; Orders [][]int64; ")
	expect(t, fieldsOf(impl.Group{}), "Table [][]int64; ")
	expect(t, fieldsOf(impl.Candidate{}), "Word string; Kind int64; ")
	expect(t, fieldsOf(impl.Likeness{}), "Symbols string; Pairs []string; ")
	expect(t, fieldsOf(impl.Speech{}), "Firsts string; Seconds string; ")
	expect(t, fieldsOf(impl.Barcode{}), "Start string; Stop string; Patterns []string; Gap int64; ")
	expect(t, fieldsOf(impl.Registry{}), "Chain impl.Chain; Apart int64; Issued []string; Revoked []int64; ")
	expect(t, fieldsOf(impl.Desk{}), "Names []string; Systems []impl.Weighting; ")
}
