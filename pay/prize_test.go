package pay_test

import (
	"slices"
	"testing"

	"ephemerist/api"
	"ephemerist/pay"
	"ephemerist/trial"
)

// sheets returns a book with a line of each hand, with so many Sheets.
func sheets(n ...int) api.PayBook {
	b := book(len(n), 1, 0, 0, 0, 0)
	for hand, many := range n {
		b.Lines = append(b.Lines, line(hand, many, 0, 0, 0, 0, 0))
	}
	return b
}

// P8.5
func TestShare(t *testing.T) {
	three := bookA()
	three.Hands = 3
	for i, x := range []struct {
		b     api.PayBook
		prize int
		want  []int
	}{
		{bookA(), 100, list(71, 29)}, {bookA(), 0, list(0, 0)}, {bookA(), 7, list(5, 2)}, {bookA(), 1, list(1, 0)}, {bookA(), mostFarthings, list(685714, 274285)}, {three, 100, list(71, 29, 0)}, {longest(), mostFarthings, list(0, 0, mostFarthings)},
		// of several as great rests the first ones
		{sheets(2, 2, 2), 10, list(4, 3, 3)}, {sheets(2, 2, 2), 11, list(4, 4, 3)}, {sheets(2, 2, 2), 12, list(4, 4, 4)}, {sheets(1, 1), 1, list(1, 0)}, {sheets(0, 1, 1), 1, list(0, 1, 0)}, {sheets(1, 0, 1), 3, list(2, 0, 1)},
		// the greatest rests, wherever they are
		{sheets(1, 2, 4), 1, list(0, 0, 1)}, {sheets(4, 2, 1), 1, list(1, 0, 0)}, {sheets(1, 5, 1), 1, list(0, 1, 0)}, {sheets(1, 2, 3), 5, list(1, 2, 2)}, {sheets(20, 1, 20), 2, list(1, 0, 1)}, {sheets(9, 9, 2), 9, list(4, 4, 1)},
	} {
		if got, e := pay.Share(x.b, x.prize); e != api.OK || !slices.Equal(got, x.want) {
			t.Error(i, got, e)
		}
	}
}

// P8.5: without Sheets there are no shares.
func TestShareOfNone(t *testing.T) {
	for i, b := range trial.List(bookOfText(), sheets(0, 0, 0), book(2, 1, 9, 9, 9, 9, line(0, 0, 0, 3, 5, 5, 0), line(1, 0, 0, 3, 5, 5, 0))) {
		for _, prize := range list(0, 1, 100, mostFarthings) {
			if got, e := pay.Share(b, prize); e != api.ErrNone || len(got) > 0 {
				t.Error(i, got, e)
			}
		}
		refused(t, map[string]call{"Share": callsOf(b, nil, 0, 0, -1)["Share"]})
	}
}

// P8.5: all farthings are given, each once, and nobody gets a whole farthing more or less than the part.
func TestShares(t *testing.T) {
	books(t, 3000, func(t *testing.T, d *dice, b api.PayBook) {
		prize := trial.Of(&d.Dice, list(0, d.From(1, 9), d.From(1, 200), d.From(0, mostFarthings)))
		all := 0
		for _, l := range b.Lines {
			all += l.Sheets
		}
		shares, e := pay.Share(b, prize)
		if all == 0 {
			if e != api.ErrNone || len(shares) > 0 {
				t.Fatal(b, prize, shares, e)
			}
			return
		}
		if e != api.OK || !slices.Equal(shares, sharesOf(b, prize)) {
			t.Fatal(b, prize, shares, e, sharesOf(b, prize))
		}
		given := 0
		for hand, share := range shares {
			part := 0
			for _, l := range b.Lines {
				if l.Hand == hand {
					part += prize * l.Sheets
				}
			}
			given += share
			if trial.Distance(share*all, part) >= all {
				t.Fatal(b, prize, hand, shares)
			}
		}
		if given != prize {
			t.Fatal(b, prize, shares)
		}
	})
}

// P8.6
func TestRate(t *testing.T) {
	dear := others()[3]
	for i, x := range []struct {
		b               api.PayBook
		hand, sum, want int
		e               api.Errno
	}{
		{bookA(), 0, 180, 31, api.OK}, {bookA(), 0, 181, 32, api.OK}, {bookA(), 1, 1000, 500, api.OK}, {bookA(), 1, 2000, 0, api.ErrNone}, {bookA(), 0, 0, 0, api.OK}, {bookA(), 0, 36, 0, api.OK}, {bookA(), 0, 37, 1, api.OK},
		// the greatest rate, and more than that
		{bookA(), 1, 1600, 800, api.OK}, {bookA(), 1, 1601, 0, api.ErrNone}, {bookA(), 1, 1604, 0, api.ErrNone}, {bookA(), 0, mostFarthings, 0, api.ErrNone}, {sheets(1), 0, 800, 800, api.OK}, {sheets(1), 0, 801, 0, api.ErrNone}, {withSheet(bookA(), 800), 1, 1600, 800, api.OK}, {withSheet(bookA(), 0), 1, 1600, 800, api.OK},
		// a hand that is paid nothing for sheets, or has no lines at all
		{bookOfText(), 0, 0, 0, api.OK}, {bookOfText(), 0, 1, 0, api.ErrNone}, {book(3, 1, 9, 0, 0, 0, bookOfText().Lines...), 2, 0, 0, api.OK}, {book(3, 1, 9, 0, 0, 0, bookOfText().Lines...), 2, 1, 0, api.ErrNone}, {dear, 0, 48, 0, api.OK}, {dear, 0, 49, 68, api.OK}, {dear, 0, 97, 92, api.OK},
	} {
		if got, e := pay.Rate(x.b, x.hand, x.sum); e != x.e || got != x.want {
			t.Error(i, got, e)
		}
	}
}

// sum returns a sum that can be paid to a hand with some rate, or any one.
func (d *dice) sum(b api.PayBook, hand int) int {
	total := totalOf(withSheet(b, d.From(0, api.PayRate)), d.truth(b), hand)
	return trial.Of(&d.Dice, list(total, total, total+1, max(0, total-1), d.From(0, 2000), d.From(0, mostFarthings)))
}

// P8.6: all rates are tried.
func TestAllRates(t *testing.T) {
	d := &dice{}
	for range 150 {
		b := d.bookWith(4, 1)
		hand := d.From(0, b.Hands-1)
		sum := d.sum(b, hand)
		want, f := rateOf(b, hand, sum)
		if got, e := pay.Rate(b, hand, sum); e != f || got != want {
			t.Fatal(b, hand, sum, got, e, want, f)
		}
	}
}

// P8.6: with a rate that somebody proposes the hand surely is paid the sum just if the rate is no less.
func TestProposedRates(t *testing.T) {
	books(t, 1000, func(t *testing.T, d *dice, b api.PayBook) {
		hand := d.From(0, b.Hands-1)
		sum := d.sum(b, hand)
		least, e := pay.Rate(b, hand, sum)
		for _, rate := range list(least-1, least, least+1, 0, api.PayRate, d.From(0, api.PayRate)) {
			if rate < 0 || rate > api.PayRate {
				continue
			}
			total, f := pay.Total(withSheet(b, rate), hand)
			if surely := total.Low >= sum; f != api.OK || surely != isSurelyPaid(withSheet(b, rate), hand, sum) || surely != (e == api.OK && rate >= least) {
				t.Fatal(b, hand, sum, rate, total, least, e, f)
			}
		}
	})
}
