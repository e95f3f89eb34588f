package trial_test

import (
	"slices"
	"testing"

	"ephemerist/api"
	"ephemerist/trial"
)

func TestShare(t *testing.T) {
	add := func(n *int) { *n++ }
	one := trial.List(1, 2, 3)
	for i, x := range []struct {
		lists [][]int
		want  bool
	}{
		{nil, false}, {trial.List(trial.List(1, 2), nil, trial.List(1, 2)), false}, {trial.List(trial.List(1), one, one[2:]), true},
		// written behind one list is in the other one
		{trial.List(one[:1], one[1:]), true}, {trial.List(one[1:], one[:1]), true}, {trial.List(one[:1:1], one[1:]), false},
	} {
		if got := trial.Share(x.lists, add); got != x.want {
			t.Error(i, got)
		}
	}
}

func TestRoom(t *testing.T) {
	room := trial.WithRoom(1, 2)
	if len(room) != 2 || !trial.IsUntouched(room, 1, 2) {
		t.Error(room)
	}
	_ = append(room, 7)
	if trial.IsUntouched(room, 1, 2) || !trial.IsUntouched(trial.WithRoom()) || trial.IsUntouched(trial.WithRoom(1, 2), 1, 3) {
		t.Error(room)
	}
}

func TestUnits(t *testing.T) {
	for value, want := range map[int][4]int{25: {2, 3, 3, 2}, 35: {3, 4, 4, 4}, -25: {-3, -2, -2, -2}, -20: {-2, -2, -2, -2}, 4: {0, 1, 0, 0}} {
		for i, rule := range trial.List(api.RoundDown, api.RoundUp, api.RoundNear, api.RoundEven) {
			if got := trial.Units(value, 10, rule); got != want[i] {
				t.Error(value, rule, got)
			}
		}
	}
}

func TestSpans(t *testing.T) {
	if got := trial.Spans(1, 2, -3, -3); !slices.Equal(got, trial.List(api.Span{Low: 1, High: 2}, api.Span{Low: -3, High: -3})) || len(trial.Spans()) > 0 {
		t.Error(got)
	}
}
