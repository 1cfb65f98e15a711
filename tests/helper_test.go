package tests

import (
	"slices"
	"strconv"
	"strings"
	"testing"
)

// repeated returns many times the same number.
func repeated(many int, x int64) []int64 { return slices.Repeat([]int64{x}, many) }

// roomy returns a slice of these numbers with spare capacity, and the whole array behind it. The
// spare numbers are not zero, so that a write beyond the length is seen.
func roomy(numbers ...int64) ([]int64, []int64) {
	whole := append(slices.Clone(numbers), 77, 78, 79, 80)
	return whole[:len(numbers)], whole
}

// wiped overwrites a slice and its spare capacity.
func wiped(s []int64) {
	s = s[:cap(s)]
	for i := range s {
		s[i] = -9
	}
}

// textOf writes numbers as a key of a map.
func textOf(row []int64) string {
	words := make([]string, len(row))
	for i, x := range row {
		words[i] = strconv.FormatInt(x, 10)
	}
	return strings.Join(words, " ")
}

// equalInts fails the test if got and want differ; nil and empty are equivalent.
func equalInts(t *testing.T, what string, got, want []int64) {
	t.Helper()
	if !slices.Equal(got, want) {
		t.Errorf("%s: got %v, want %v", what, got, want)
	}
}

// equalRows fails the test if got and want differ; nil and empty are equivalent.
func equalRows(t *testing.T, what string, got, want [][]int64) {
	t.Helper()
	if !slices.EqualFunc(got, want, slices.Equal[[]int64]) {
		t.Errorf("%s: got %v, want %v", what, got, want)
	}
}
