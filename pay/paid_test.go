package pay_test

import (
	"slices"
	"testing"

	"ephemerist/api"
	"ephemerist/pay"
	"ephemerist/trial"
)

// P8.2
func TestCheck(t *testing.T) {
	if e := pay.Check(book(3, 1, 800, 0, 0, 0, line(2, 0, 0, 3, 0, 0, 0), line(0, 0, 20, 20, 0, 0, 0), line(1, 0, 17, 20, 0, 0, 1))); e != api.OK {
		t.Error(e)
	}
	books(t, 1000, func(t *testing.T, _ *dice, b api.PayBook) {
		if e := pay.Check(b); e != api.OK {
			t.Error(b, e)
		}
	})
}

// P8.2 to P8.7, P0.12: each function refuses each book that is not as defined.
func TestBadBooks(t *testing.T) {
	for i, b := range badBooks() {
		if e := pay.Check(b); e != api.ErrArg {
			t.Error(i, b, e)
		}
		var truth []int
		for _, l := range b.Lines {
			truth = append(truth, l.Errors.Low)
		}
		refused(t, callsOf(b, truth, 0, 0, 0), "book ", i)
	}
}

// P8.2 to P8.6: there is no such line or hand.
func TestBadNumbers(t *testing.T) {
	for _, n := range list(-1, 3, 4, most, least) {
		for i, b := range trial.List(bookA(), bookB()) {
			calls := callsOf(b, list(1, 1, 0), n, n, 0)
			refused(t, map[string]call{"Owed": calls["Owed"], "Errors": calls["Errors"], "Rest": calls["Rest"], "Total": calls["Total"], "Rate": calls["Rate"]}, "book ", i, " number ", n)
		}
	}
	// a line that there is, and a hand that there is not
	calls := callsOf(bookA(), list(1, 1, 0), 2, 2, 0)
	refused(t, map[string]call{"Rest": calls["Rest"], "Total": calls["Total"], "Rate": calls["Rate"]})
	for _, sum := range list(-1, mostFarthings+1, most, least) {
		calls := callsOf(bookA(), nil, 0, 0, sum)
		refused(t, map[string]call{"Share": calls["Share"], "Rate": calls["Rate"]}, "sum ", sum)
	}
}

// P8.2
func TestBadTruths(t *testing.T) {
	for i, truth := range [][]int{nil, {}, {1}, {1, 1}, {1, 1, 0, 0}, {0, 1, 0}, {3, 1, 0}, {1, 2, 0}, {1, -1, 0}, {1, 1, 1}, {1, 1, -1}, {most, 1, 0}, {1, least, 0}, make([]int, 1000)} {
		refused(t, truthCallsOf(bookA(), truth, 0), "truth ", i)
	}
}

// P8.2
func TestOwed(t *testing.T) {
	dear := others()[3]
	for i, x := range []struct {
		b    api.PayBook
		line int
		want api.Span
	}{{bookA(), 0, span(92, 97)}, {bookA(), 1, span(61, 66)}, {bookA(), 2, span(86, 86)}, {dear, 0, span(30, 50)}, {dear, 1, span(30, 30)}, {bookOfText(), 0, span(0, 0)}, {longest(), 4, span(16000, 18400)}} {
		if got, e := pay.Owed(x.b, x.line); e != api.OK || got != x.want {
			t.Error(i, got, e)
		}
	}
	books(t, 3000, func(t *testing.T, _ *dice, b api.PayBook) {
		for i, l := range b.Lines {
			var sums []int
			for n := l.Errors.Low; n <= l.Errors.High; n++ {
				sums = append(sums, owedOf(b, l, n))
			}
			if got, e := pay.Owed(b, i); e != api.OK || got != widest(sums) {
				t.Fatal(b, i, got, e, sums)
			}
		}
	})
}

// P8.2
func TestPaysAndRest(t *testing.T) {
	dear := others()[3]
	for i, x := range []struct {
		b           api.PayBook
		truth       []int
		pays, rests []int
	}{{bookA(), list(1, 1, 0), list(96, 60, 84), list(3, 1)}, {bookA(), list(2, 0, 0), list(92, 64, 84), list(2, 2)}, {bookB(), list(2, 1, 0), list(92, 60, 84), list(2, 1)}, {dear, list(0, 0), list(48, 0), list(32)}, {dear, list(1, 0), list(0, 48), list(12)}, {bookOfText(), list(0), list(0), list(0)}, {longest(), list(17, 18, 19, 20, 17), list(18384, 17616, 16800, 15984, 18384), list(0, 0, 32)}} {
		if got, e := pay.Pays(x.b, x.truth); e != api.OK || !slices.Equal(got, x.pays) {
			t.Error(i, got, e)
		}
		for hand, want := range x.rests {
			if got, e := pay.Rest(x.b, x.truth, hand); e != api.OK || got != want {
				t.Error(i, hand, got, e)
			}
		}
	}
	books(t, 3000, func(t *testing.T, d *dice, b api.PayBook) {
		truth := d.truth(b)
		if got, e := pay.Pays(b, truth); e != api.OK || !slices.Equal(got, paidOf(b, truth)) {
			t.Fatal(b, truth, got, e, paidOf(b, truth))
		}
		for hand := range b.Hands {
			owed := owedUpTo(b, truth, hand, len(b.Lines))
			if got, e := pay.Rest(b, truth, hand); e != api.OK || got != owed%b.Unit {
				t.Fatal(b, truth, hand, got, e, owed)
			}
		}
	})
}

// P8.2: all that is owed to a hand is paid, but for the rest, which is less than a Unit.
func TestAllIsPaid(t *testing.T) {
	books(t, 2000, func(t *testing.T, d *dice, b api.PayBook) {
		truth := d.truth(b)
		pays, _ := pay.Pays(b, truth)
		for hand := range b.Hands {
			rest, e := pay.Rest(b, truth, hand)
			left := rest
			for i, l := range b.Lines {
				owed, f := pay.Owed(sure(b, truth), i)
				if f != api.OK || owed.Low != owed.High || pays[i]%b.Unit != 0 {
					t.Fatal(b, truth, i, owed, pays, f)
				}
				if l.Hand == hand {
					left += pays[i] - owed.Low
				}
			}
			if e != api.OK || left != 0 || rest < 0 || rest >= b.Unit {
				t.Fatal(b, truth, hand, pays, rest, left, e)
			}
		}
	})
}

// P8.3
func TestBoundsAndTotal(t *testing.T) {
	dear := others()[3]
	for i, x := range []struct {
		b              api.PayBook
		bounds, totals []api.Span
	}{
		{bookA(), spans(92, 96, 60, 64, 84, 84), spans(176, 180, 60, 64)}, {bookB(), spans(92, 96, 60, 64, 84, 84), spans(176, 180, 60, 64)}, {bookOfText(), spans(0, 0), spans(0, 0)},
		// with an error less is paid in the first line, and more in the next one
		{dear, spans(0, 48, 0, 48), spans(48, 48)},
		// what the line before leaves is a Unit, or nothing
		{book(1, 10, 5, 1, 0, 0, line(0, 3, 0, 3, 0, 0, 0), line(0, 3, 0, 3, 0, 0, 0)), spans(10, 10, 10, 20), spans(20, 30)},
	} {
		if got, e := pay.Bounds(x.b); e != api.OK || !slices.Equal(got, x.bounds) {
			t.Error(i, got, e)
		}
		for hand, want := range x.totals {
			if got, e := pay.Total(x.b, hand); e != api.OK || got != want {
				t.Error(i, hand, got, e)
			}
		}
	}
	books(t, 1500, func(t *testing.T, _ *dice, b api.PayBook) {
		if got, e := pay.Bounds(b); e != api.OK || !slices.Equal(got, boundsOf(b)) {
			t.Fatal(b, got, e, boundsOf(b))
		}
		for hand := range b.Hands {
			if got, e := pay.Total(b, hand); e != api.OK || got != widest(totalsOf(b, hand)) {
				t.Fatal(b, hand, got, e, totalsOf(b, hand))
			}
		}
	})
}

// P8.3: in whatever truth somebody proposes, what is paid lies within the bounds.
func TestPaidWithinBounds(t *testing.T) {
	books(t, 2000, func(t *testing.T, d *dice, b api.PayBook) {
		bounds, e := pay.Bounds(b)
		totals := make([]int, b.Hands)
		pays, f := pay.Pays(b, d.truth(b))
		for i, n := range pays {
			totals[b.Lines[i].Hand] += n
			if e != api.OK || f != api.OK || n < bounds[i].Low || n > bounds[i].High {
				t.Fatal(b, i, pays, bounds, e, f)
			}
		}
		for hand, n := range totals {
			if total, e := pay.Total(b, hand); e != api.OK || n < total.Low || n > total.High {
				t.Fatal(b, hand, n, total, e)
			}
		}
	})
}
