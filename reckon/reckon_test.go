package reckon_test

import (
	"slices"
	"testing"

	"ephemerist/api"
	"ephemerist/reckon"
	"ephemerist/trial"
)

func TestSum(t *testing.T) {
	for want, numbers := range map[int][]int{0: nil, 5: {5}, -2: {1, -4, 1}} {
		if got := reckon.Sum(numbers...); got != want {
			t.Error(numbers, got)
		}
	}
}

// R7: quotients are rounded down.
func TestQuotient(t *testing.T) {
	for _, x := range [][3]int{{7, 2, 3}, {6, 2, 3}, {1, 2, 0}, {0, 2, 0}, {-1, 2, -1}, {-2, 2, -1}, {-3, 2, -2}, {-7, 3, -3}, {-6, 3, -2}, {5, 1, 5}, {-5, 1, -5}, {5, 1000, 0}, {-5, 1000, -1}} {
		if got := reckon.Quotient(x[0], x[1]); got != x[2] {
			t.Error(x, got)
		}
	}
}

func TestWithin(t *testing.T) {
	for n, want := range map[int]bool{-2: false, -1: true, 0: true, 3: true, 4: false} {
		if got := reckon.Within(n, -1, 3); got != want {
			t.Error(n, got)
		}
	}
	if reckon.Within(0, 1, -1) {
		t.Error("within no bounds")
	}
}

// R6: of several equal things the first one is meant.
func TestBest(t *testing.T) {
	longer := func(a, b string) bool { return len(a) > len(b) }
	for want, things := range map[string][]string{"": nil, "a": {"a"}, "bb": {"a", "bb", "cc", "d"}, "ccc": {"ccc", "bb"}, "ddd": {"", "ddd"}} {
		if got := reckon.Best(things, longer); got != want {
			t.Error(things, got)
		}
	}
	if got := reckon.Best(trial.List(-1, -5), func(a, b int) bool { return a > b }); got != -1 {
		t.Error(got)
	}
}

func spans(ends ...int) []api.Span { return trial.Spans(ends...) }

func TestIsSpan(t *testing.T) {
	const most, least = 1<<63 - 1, -1 << 63
	for _, s := range spans(0, 0, -9, -9, 9, 9, 6, 9, -9, -6, -1, 2) {
		if !reckon.IsSpan(s, 9, 3) {
			t.Error(s)
		}
	}
	for _, s := range spans(1, 0, 9, -9, 0, 4, -2, 2, 7, 10, 10, 10, -10, -7, -10, -10, least, most, most, least, most, most, least, least, 0, most, least, 0) {
		if reckon.IsSpan(s, 9, 3) {
			t.Error(s)
		}
	}
}

func TestAreWithin(t *testing.T) {
	for i, x := range []struct {
		numbers []int
		spans   []api.Span
		want    bool
	}{
		{nil, nil, true}, {trial.List(1, 5), spans(1, 2, 4, 5), true}, {trial.List(2, 4), spans(1, 2, 4, 5), true},
		{trial.List(0, 4), spans(1, 2, 4, 5), false}, {trial.List(3, 4), spans(1, 2, 4, 5), false}, {trial.List(1, 6), spans(1, 2, 4, 5), false}, {trial.List(1, 3), spans(1, 2, 4, 5), false},
		{nil, spans(1, 2), false}, {trial.List(1), nil, false}, {trial.List(1), spans(1, 2, 4, 5), false}, {trial.List(1, 4, 4), spans(1, 2, 4, 5), false},
	} {
		if got := reckon.AreWithin(x.numbers, x.spans); got != x.want {
			t.Error(i, got)
		}
	}
}

func TestNumbers(t *testing.T) {
	for i, x := range []struct {
		span api.Span
		want []int
	}{{api.Span{Low: -1, High: 2}, trial.List(-1, 0, 1, 2)}, {api.Span{Low: 7, High: 7}, trial.List(7)}, {api.Span{Low: 1, High: 0}, nil}} {
		if got := slices.Collect(reckon.Numbers(x.span)); !slices.Equal(got, x.want) {
			t.Error(i, got)
		}
	}
	for n := range reckon.Numbers(api.Span{Low: 1, High: 9}) {
		if n == 3 {
			break
		}
		if n > 3 {
			t.Error("it goes on", n)
		}
	}
}

func TestEnds(t *testing.T) {
	all := spans(1, 2, -4, 5, 7, 7)
	got := reckon.Ends(all)
	if !slices.Equal(got[0], trial.List(1, -4, 7)) || !slices.Equal(got[1], trial.List(2, 5, 7)) || !slices.Equal(all, spans(1, 2, -4, 5, 7, 7)) {
		t.Error(got, all)
	}
	if got := reckon.Ends(nil); len(got[0]) != 0 || len(got[1]) != 0 {
		t.Error(got)
	}
}
