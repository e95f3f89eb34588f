package reckon_test

import (
	"testing"

	"ephemerist/reckon"
	"ephemerist/trial"
)

func TestSum(t *testing.T) {
	for want, numbers := range map[int][]int{0: nil, 5: {5}, -2: {1, -4, 1}} {
		if got := reckon.Sum(numbers...); got != want {
			t.Error(numbers, got)
		}
	}
}

// R7: quotients are rounded down.
func TestQuotient(t *testing.T) {
	for _, x := range [][3]int{{7, 2, 3}, {6, 2, 3}, {1, 2, 0}, {0, 2, 0}, {-1, 2, -1}, {-2, 2, -1}, {-3, 2, -2}, {-7, 3, -3}, {-6, 3, -2}, {5, 1, 5}, {-5, 1, -5}, {5, 1000, 0}, {-5, 1000, -1}} {
		if got := reckon.Quotient(x[0], x[1]); got != x[2] {
			t.Error(x, got)
		}
	}
}

func TestWithin(t *testing.T) {
	for n, want := range map[int]bool{-2: false, -1: true, 0: true, 3: true, 4: false} {
		if got := reckon.Within(n, -1, 3); got != want {
			t.Error(n, got)
		}
	}
	if reckon.Within(0, 1, -1) {
		t.Error("within no bounds")
	}
}

// R6: of several equal things the first one is meant.
func TestBest(t *testing.T) {
	longer := func(a, b string) bool { return len(a) > len(b) }
	for want, things := range map[string][]string{"": nil, "a": {"a"}, "bb": {"a", "bb", "cc", "d"}, "ccc": {"ccc", "bb"}, "ddd": {"", "ddd"}} {
		if got := reckon.Best(things, longer); got != want {
			t.Error(things, got)
		}
	}
	if got := reckon.Best(trial.List(-1, -5), func(a, b int) bool { return a > b }); got != -1 {
		t.Error(got)
	}
}
