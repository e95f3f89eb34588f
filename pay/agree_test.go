package pay_test

import (
	"slices"
	"testing"

	"ephemerist/api"
	"ephemerist/pay"
)

// free returns the book a without a rate for a Sheet, in which nothing is owed for
// sheets, whatever the errors are.
func free() api.PayBook { return paying(withSheet(bookA(), 0), 12, 4, 24) }

// P8.4
func TestAgreesAndFirst(t *testing.T) {
	dear := others()[3]
	for i, x := range []struct {
		b     api.PayBook
		truth []int
		e     api.Errno
		first int
		f     api.Errno
	}{
		{bookA(), list(1, 1, 0), api.OK, 0, api.ErrNone}, {bookB(), nil, api.ErrNone, 2, api.OK}, {bookOfText(), list(0), api.OK, 0, api.ErrNone}, {dear, list(1, 0), api.OK, 0, api.ErrNone}, {free(), list(1, 0, 0), api.OK, 0, api.ErrNone}, {longest(), nil, api.ErrNone, 0, api.OK},
		// of several wrong lines the first one
		{paying(bookA(), 97, 61, 85), nil, api.ErrNone, 0, api.OK}, {paying(bookA(), 96, 61, 85), nil, api.ErrNone, 1, api.OK}, {paying(bookA(), 96, 64, 85), nil, api.ErrNone, 2, api.OK}, {paying(bookA(), 0), nil, api.ErrNone, 0, api.OK}, {paying(bookA(), mostFarthings), nil, api.ErrNone, 0, api.OK},
		// each of two lines can be right, but not both
		{paying(dear, 0, 0), nil, api.ErrNone, 1, api.OK}, {paying(dear, 48, 48), nil, api.ErrNone, 1, api.OK}, {paying(dear, 48, 0), list(0, 0), api.OK, 0, api.ErrNone}, {paying(bookA(), 92, 60, 84), list(2, 1, 0), api.OK, 0, api.ErrNone}, {paying(bookA(), 92, 60, 88), nil, api.ErrNone, 2, api.OK},
	} {
		if got, e := pay.Agrees(x.b); e != x.e || !slices.Equal(got, x.truth) {
			t.Error(i, got, e)
		}
		if got, e := pay.First(x.b); e != x.f || got != x.first {
			t.Error(i, got, e)
		}
	}
}

// P8.4
func TestErrors(t *testing.T) {
	for i, x := range []struct {
		b    api.PayBook
		line int
		want api.Span
		e    api.Errno
	}{
		{bookA(), 0, span(1, 1), api.OK}, {bookA(), 1, span(1, 1), api.OK}, {bookA(), 2, span(0, 0), api.OK}, {bookB(), 0, api.Span{}, api.ErrNone}, {bookB(), 2, api.Span{}, api.ErrNone}, {free(), 0, span(1, 2), api.OK}, {free(), 1, span(0, 1), api.OK}, {longest(), 4, api.Span{}, api.ErrNone},
		// with a great Unit some errors are not seen
		{book(1, 10, 5, 1, 0, 0, line(0, 3, 0, 3, 0, 0, 10)), 0, span(0, 3), api.OK}, {book(1, 10, 5, 1, 0, 0, line(0, 4, 0, 3, 0, 0, 10)), 0, span(1, 3), api.OK}, {book(1, 10, 5, 1, 0, 0, line(0, 4, 0, 3, 0, 0, 20)), 0, span(0, 0), api.OK},
		// a later line tells how many there were
		{book(1, 10, 5, 1, 0, 0, line(0, 3, 0, 3, 0, 0, 10), line(0, 1, 0, 0, 0, 0, 10)), 0, span(0, 0), api.OK}, {book(1, 10, 5, 1, 0, 0, line(0, 3, 0, 3, 0, 0, 10), line(0, 1, 0, 0, 0, 0, 0)), 0, span(1, 3), api.OK},
	} {
		if got, e := pay.Errors(x.b, x.line); e != x.e || got != x.want {
			t.Error(i, got, e)
		}
	}
}

// P8.4, P0.8
func TestAgreement(t *testing.T) {
	agree := 0
	books(t, 2000, func(t *testing.T, _ *dice, b api.PayBook) {
		all := agreeingOf(b)
		got, e := pay.Agrees(b)
		first, f := pay.First(b)
		line, g := firstOf(b)
		if first != line || f != g || (e == api.OK) != (f == api.ErrNone) {
			t.Fatal(b, first, f, line, g, e)
		}
		if len(all) > 0 && (e != api.OK || !slices.Equal(got, all[0])) || len(all) == 0 && (e != api.ErrNone || len(got) > 0) {
			t.Fatal(b, got, e, all)
		}
		for i := range b.Lines {
			errors, e := pay.Errors(b, i)
			if len(all) > 0 && (e != api.OK || errors != widest(column(all, i))) || len(all) == 0 && (e != api.ErrNone || errors != api.Span{}) {
				t.Fatal(b, i, errors, e, all)
			}
		}
		agree += min(len(all), 1)
	})
	if agree < 500 || agree > 1800 {
		t.Error("the books are not of both kinds", agree)
	}
}

// P8.4: no truth that somebody proposes, and with which the book agrees, comes before the first one, or has other errors than are returned.
func TestProposedTruths(t *testing.T) {
	books(t, 2000, func(t *testing.T, d *dice, b api.PayBook) {
		truth := d.truth(b)
		pays, _ := pay.Pays(b, truth)
		b = paying(b, pays...)
		first, e := pay.Agrees(b)
		line, f := pay.First(b)
		again, g := pay.Pays(b, first)
		if e != api.OK || f != api.ErrNone || line != 0 || g != api.OK || !slices.Equal(pays, again) || slices.Compare(truth, first) < 0 {
			t.Fatal(b, truth, first, line, again, e, f, g)
		}
		for i, n := range truth {
			if errors, e := pay.Errors(b, i); e != api.OK || n < errors.Low || n > errors.High {
				t.Fatal(b, truth, i, errors, e)
			}
		}
	})
}
