package pay_test

import (
	"cmp"
	"fmt"
	"slices"
	"testing"

	"ephemerist/api"
	"ephemerist/pay"
	"ephemerist/trial"
)

// This file has a second way to each result: errors and mornings are counted one
// by one, what is paid is told by all that was owed up to a line, without rests,
// and all truths are written out.

const (
	most, least   = 1<<63 - 1, -1 << 63
	mostFarthings = 999*960 + 959
)

func list(n ...int) []int { return trial.List(n...) }

func span(low, high int) api.Span { return api.Span{Low: low, High: high} }

func spans(ends ...int) []api.Span { return trial.Spans(ends...) }

func money(pounds, shillings, pence, farthings int) api.PayMoney {
	return api.PayMoney{Pounds: pounds, Shillings: shillings, Pence: pence, Farthings: farthings}
}

// counted returns how many farthings an amount of money is.
func counted(m api.PayMoney) int {
	return ((m.Pounds*20+m.Shillings)*12+m.Pence)*4 + m.Farthings
}

// made returns the amount of money of some farthings.
func made(farthings int) api.PayMoney {
	pence := farthings / 4
	shillings := pence / 12
	return money(shillings/20, shillings%20, pence%12, farthings%4)
}

// line returns a line in which so many farthings are paid.
func line(hand, sheets, low, high, mornings, posts, paid int) api.PayLine {
	return api.PayLine{Hand: hand, Sheets: sheets, Errors: span(low, high), Mornings: mornings, Posts: posts, Paid: made(paid)}
}

func book(hands, unit, sheet, err, morning, post int, lines ...api.PayLine) api.PayBook {
	return api.PayBook{Hands: hands, Unit: unit, Sheet: sheet, Error: err, Morning: morning, Post: post, Lines: lines}
}

// bookA and bookB are the books of the chapter.
func bookA() api.PayBook {
	return book(2, 4, 30, 5, 12, 2, line(0, 3, 1, 2, 1, 0, 96), line(1, 2, 0, 1, 0, 3, 60), line(0, 2, 0, 0, 2, 1, 84))
}

func bookB() api.PayBook { return paying(bookA(), 96, 60, 88) }

// bookOfText is the book of the chapter's text.
func bookOfText() api.PayBook { return book(1, 1, 0, 0, 0, 0, line(0, 0, 0, 0, 0, 0, 0)) }

// longest returns a book with a text that is as long as any.
func longest() api.PayBook {
	return book(3, 48, 800, 800, 800, 800, slices.Repeat(trial.List(line(2, 20, 17, 20, 10, 10, mostFarthings)), 5)...)
}

// others are books of other forms: with one line and one hand, without rates,
// with errors that cost more than all sheets, and with many truths.
func others() []api.PayBook {
	dear := book(1, 48, 10, 100, 30, 0, line(0, 2, 0, 1, 1, 0, 0), line(0, 0, 0, 0, 1, 0, 48))
	wide := book(3, 7, 5, 3, 1, 1, line(0, 4, 0, 3, 0, 0, 14), line(1, 4, 2, 5, 1, 1, 7), line(0, 4, 17, 20, 9, 2, 14), line(0, 0, 0, 3, 0, 0, 7), line(0, 3, 1, 4, 3, 0, 14))
	return trial.List(bookB(), bookOfText(), longest(), dear, wide, paying(wide, 14, 14, 14, 0, 14), book(3, 48, 0, 800, 0, 0, line(2, 20, 0, 3, 0, 0, 0)), book(1, 48, 1, 0, 0, 0, line(0, 0, 0, 3, 0, 0, 0), line(0, 20, 0, 3, 0, 0, 0), line(0, 20, 0, 3, 0, 0, 0), line(0, 20, 0, 3, 0, 0, 48)))
}

func cloned(b api.PayBook) api.PayBook {
	b.Lines = slices.Clone(b.Lines)
	return b
}

// paying returns a book in which other farthings are paid.
func paying(b api.PayBook, paid ...int) api.PayBook {
	b = cloned(b)
	for i, n := range paid {
		b.Lines[i].Paid = made(n)
	}
	return b
}

// sure returns a book in which the errors of a truth are all that can be.
func sure(b api.PayBook, truth []int) api.PayBook {
	b = cloned(b)
	for i, n := range truth {
		b.Lines[i].Errors = span(n, n)
	}
	return b
}

// withSheet returns a book with another rate for a Sheet.
func withSheet(b api.PayBook, rate int) api.PayBook {
	b.Sheet = rate
	return b
}

func sameBook(a, b api.PayBook) bool {
	lines := slices.Equal(a.Lines, b.Lines)
	a.Lines, b.Lines = nil, nil
	return lines && fmt.Sprint(a) == fmt.Sprint(b)
}

// owedOf returns what is owed for a line: errors are taken off one by one, until
// nothing is left for the sheets.
func owedOf(b api.PayBook, l api.PayLine, errors int) int {
	owed := 0
	for range l.Sheets {
		owed += b.Sheet
	}
	for range errors {
		owed -= min(owed, b.Error)
	}
	for range l.Mornings {
		owed += b.Morning
	}
	for range l.Posts {
		owed += b.Post
	}
	return owed
}

// owedUpTo returns what is owed to a hand for the lines before one.
func owedUpTo(b api.PayBook, truth []int, hand, end int) int {
	owed := 0
	for i, l := range b.Lines[:end] {
		if l.Hand == hand {
			owed += owedOf(b, l, truth[i])
		}
	}
	return owed
}

// whole returns some farthings, rounded down to whole units.
func whole(b api.PayBook, farthings int) int { return farthings / b.Unit * b.Unit }

// paidOf returns what is paid in each line.
func paidOf(b api.PayBook, truth []int) []int {
	var paid []int
	for i, l := range b.Lines {
		paid = append(paid, whole(b, owedUpTo(b, truth, l.Hand, i+1))-whole(b, owedUpTo(b, truth, l.Hand, i)))
	}
	return paid
}

// totalOf returns what is paid to a hand.
func totalOf(b api.PayBook, truth []int, hand int) int {
	total := 0
	for i, n := range paidOf(b, truth) {
		if b.Lines[i].Hand == hand {
			total += n
		}
	}
	return total
}

// truthsOf returns all truths of a book, in lexicographic order.
func truthsOf(b api.PayBook) [][]int {
	all := [][]int{nil}
	for _, l := range b.Lines {
		var longer [][]int
		for _, truth := range all {
			for n := l.Errors.Low; n <= l.Errors.High; n++ {
				longer = append(longer, append(slices.Clone(truth), n))
			}
		}
		all = longer
	}
	return all
}

// agreeingOf returns all truths with which a book agrees.
func agreeingOf(b api.PayBook) [][]int {
	var paid []int
	for _, l := range b.Lines {
		paid = append(paid, counted(l.Paid))
	}
	return slices.DeleteFunc(truthsOf(b), func(truth []int) bool { return !slices.Equal(paidOf(b, truth), paid) })
}

// firstOf returns the first line with which, and those before it, no truth
// agrees; ErrNone if there is none.
func firstOf(b api.PayBook) (int, api.Errno) {
	for end := len(b.Lines); end >= 0; end-- {
		begun := b
		begun.Lines = b.Lines[:end]
		if len(agreeingOf(begun)) > 0 {
			if end == len(b.Lines) {
				return 0, api.ErrNone
			}
			return end, api.OK
		}
	}
	panic("a book without lines agrees")
}

// widest returns the least span that has some numbers.
func widest(numbers []int) api.Span {
	s := span(numbers[0], numbers[0])
	for _, n := range numbers {
		s = span(min(s.Low, n), max(s.High, n))
	}
	return s
}

// column returns a number of each of some lists.
func column(lists [][]int, at int) []int {
	var numbers []int
	for _, l := range lists {
		numbers = append(numbers, l[at])
	}
	return numbers
}

// boundsOf returns the least and the greatest sum that is paid in each line.
func boundsOf(b api.PayBook) []api.Span {
	var paid [][]int
	for _, truth := range truthsOf(b) {
		paid = append(paid, paidOf(b, truth))
	}
	var bounds []api.Span
	for i := range b.Lines {
		bounds = append(bounds, widest(column(paid, i)))
	}
	return bounds
}

// totalsOf returns what is paid to a hand in each truth.
func totalsOf(b api.PayBook, hand int) []int {
	var totals []int
	for _, truth := range truthsOf(b) {
		totals = append(totals, totalOf(b, truth, hand))
	}
	return totals
}

// isSurelyPaid tells whether a hand is paid a sum at least in each truth.
func isSurelyPaid(b api.PayBook, hand, sum int) bool {
	return !slices.ContainsFunc(totalsOf(b, hand), func(total int) bool { return total < sum })
}

// rateOf returns the least rate with which a hand surely is paid a sum.
func rateOf(b api.PayBook, hand, sum int) (int, api.Errno) {
	for rate := range api.PayRate + 1 {
		if isSurelyPaid(withSheet(b, rate), hand, sum) {
			return rate, api.OK
		}
	}
	return 0, api.ErrNone
}

// sharesOf returns the shares of a prize: the hands stand in the order of their
// rests, and the first ones get what is left.
func sharesOf(b api.PayBook, prize int) []int {
	all := 0
	sheets, order := make([]int, b.Hands), make([]int, b.Hands)
	for _, l := range b.Lines {
		sheets[l.Hand] += l.Sheets
		all += l.Sheets
	}
	shares, left := make([]int, b.Hands), prize
	for hand, n := range sheets {
		for (shares[hand]+1)*all <= prize*n {
			shares[hand]++
		}
		left -= shares[hand]
		order[hand] = hand
	}
	slices.SortStableFunc(order, func(x, y int) int {
		return cmp.Compare(prize*sheets[y]-shares[y]*all, prize*sheets[x]-shares[x]*all)
	})
	for _, hand := range order[:left] {
		shares[hand]++
	}
	return shares
}

type dice struct{ trial.Dice }

// errors returns a span of errors.
func (d *dice) errors(wide int) api.Span {
	low := trial.Of(&d.Dice, list(0, 0, 1, 2, 3, d.From(0, api.PayErrors), api.PayErrors))
	return span(low, d.From(low, min(low+wide, api.PayErrors)))
}

// rate returns a rate: none, one that is little, or any one.
func (d *dice) rate() int {
	return trial.Of(&d.Dice, list(0, d.From(1, 9), d.From(1, 60), d.From(1, 60), d.From(0, api.PayRate)))
}

// bookWith returns a book in which nothing is paid, of so many lines at most, with
// errors that are so wide apart.
func (d *dice) bookWith(many, wide int) api.PayBook {
	b := book(d.From(1, api.PayHands), trial.Of(&d.Dice, list(1, 2, 4, 12, 48, d.From(1, api.PayUnit))), d.rate(), d.rate(), d.rate(), d.rate())
	for range d.From(1, many) {
		errors, few := d.errors(wide), d.From(0, 4)
		b.Lines = append(b.Lines, line(d.From(0, b.Hands-1), trial.Of(&d.Dice, list(0, few, few, d.From(0, api.PaySheets))), errors.Low, errors.High, trial.Of(&d.Dice, list(0, few, d.From(0, api.PayMornings))), trial.Of(&d.Dice, list(0, few, d.From(0, api.PayPosts))), 0))
	}
	return b
}

func (d *dice) truth(b api.PayBook) []int {
	var truth []int
	for _, l := range b.Lines {
		truth = append(truth, d.From(l.Errors.Low, l.Errors.High))
	}
	return truth
}

// settled returns a book in which what is paid is so in a truth, in all lines or
// in all but some.
func (d *dice) settled(b api.PayBook) api.PayBook {
	paid := paidOf(b, d.truth(b))
	for i := range paid {
		switch d.From(0, 14) {
		case 0:
			paid[i] += b.Unit
		case 1:
			paid[i] = max(0, paid[i]-b.Unit)
		case 2:
			paid[i] = d.From(0, mostFarthings)
		}
	}
	return paying(b, paid...)
}

// any returns a book.
func (d *dice) any() api.PayBook {
	return d.settled(d.bookWith(api.PayLines, trial.Of(&d.Dice, list(0, 1, 1, 2, 3))))
}

// books calls f with the chapter's books and with many others.
func books(t *testing.T, many int, f func(t *testing.T, d *dice, b api.PayBook)) {
	t.Helper()
	d := &dice{}
	for _, b := range append(others(), bookA()) {
		f(t, d, b)
	}
	for range many {
		if b := d.any(); !t.Failed() {
			f(t, d, b)
		}
	}
}

// badBooks are books that are not as defined, each in one way.
func badBooks() []api.PayBook {
	bad := trial.List(api.PayBook{}, book(1, 1, 0, 0, 0, 0), book(1, 1, 0, 0, 0, 0, []api.PayLine{}...), book(1, 4, 30, 5, 12, 2, bookA().Lines...), book(3, 48, 800, 800, 800, 800, slices.Repeat(longest().Lines, 2)[:6]...), book(1, 1, 0, 0, 0, 0, make([]api.PayLine, 1000)...))
	far := func(low, high int) []int { return list(low-1, high+1, least, most) }
	each := func(numbers []int, set func(b *api.PayBook, n int)) {
		for _, n := range numbers {
			b := bookA()
			set(&b, n)
			bad = append(bad, b)
		}
	}
	each(far(1, 3), func(b *api.PayBook, n int) { b.Hands = n })
	each(far(1, 48), func(b *api.PayBook, n int) { b.Unit = n })
	each(far(0, 800), func(b *api.PayBook, n int) { b.Sheet = n })
	each(far(0, 800), func(b *api.PayBook, n int) { b.Error = n })
	each(far(0, 800), func(b *api.PayBook, n int) { b.Morning = n })
	each(far(0, 800), func(b *api.PayBook, n int) { b.Post = n })
	for i := range bookA().Lines {
		each(far(0, 1), func(b *api.PayBook, n int) { b.Lines[i].Hand = n })
		each(far(0, 20), func(b *api.PayBook, n int) { b.Lines[i].Sheets = n })
		each(far(0, 20), func(b *api.PayBook, n int) { b.Lines[i].Errors = span(n, n) })
		each(far(0, 10), func(b *api.PayBook, n int) { b.Lines[i].Mornings = n })
		each(far(0, 10), func(b *api.PayBook, n int) { b.Lines[i].Posts = n })
		for _, s := range spans(-1, 0, 0, 4, 3, 2, 5, 0, 16, 20, 20, 21, 20, 19, -3, -1, least, most, most, least, least, 0, 0, most, 0, least, most, 0) {
			each(list(0), func(b *api.PayBook, _ int) { b.Lines[i].Errors = s })
		}
		for _, m := range badMoney() {
			each(list(0), func(b *api.PayBook, _ int) { b.Lines[i].Paid = m })
		}
	}
	return bad
}

// badMoney is amounts of money that are not as defined.
func badMoney() []api.PayMoney {
	var bad []api.PayMoney
	for _, n := range list(-1, least, most) {
		bad = append(bad, money(n, 0, 0, 0), money(0, n, 0, 0), money(0, 0, n, 0), money(0, 0, 0, n), money(1, 1, 1, n))
	}
	return append(bad, money(1000, 0, 0, 0), money(0, 20, 0, 0), money(0, 0, 12, 0), money(0, 0, 0, 4), money(999, 19, 12, 3), money(1, 0, 0, -1), money(1000, -20, 0, 0), money(0, 20, -1, 0), money(0, 0, 12, -4))
}

// call is a call of a function, which tells whether its other results are zero.
type call func() (bool, api.Errno)

// callsOf returns calls of all functions that have a book.
func callsOf(b api.PayBook, truth []int, at, hand, sum int) map[string]call {
	calls := truthCallsOf(b, truth, hand)
	calls["Owed"] = func() (bool, api.Errno) { y, e := pay.Owed(b, at); return y == api.Span{}, e }
	calls["Bounds"] = func() (bool, api.Errno) { y, e := pay.Bounds(b); return len(y) == 0, e }
	calls["Total"] = func() (bool, api.Errno) { y, e := pay.Total(b, hand); return y == api.Span{}, e }
	calls["Agrees"] = func() (bool, api.Errno) { y, e := pay.Agrees(b); return len(y) == 0, e }
	calls["First"] = func() (bool, api.Errno) { y, e := pay.First(b); return y == 0, e }
	calls["Errors"] = func() (bool, api.Errno) { y, e := pay.Errors(b, at); return y == api.Span{}, e }
	calls["Share"] = func() (bool, api.Errno) { y, e := pay.Share(b, sum); return len(y) == 0, e }
	calls["Rate"] = func() (bool, api.Errno) { y, e := pay.Rate(b, hand, sum); return y == 0, e }
	calls["Print"] = func() (bool, api.Errno) { y, e := pay.Print(b); return y == "", e }
	return calls
}

// truthCallsOf returns calls of all functions that have a truth.
func truthCallsOf(b api.PayBook, truth []int, hand int) map[string]call {
	return map[string]call{
		"Pays": func() (bool, api.Errno) { y, e := pay.Pays(b, truth); return len(y) == 0, e },
		"Rest": func() (bool, api.Errno) { y, e := pay.Rest(b, truth, hand); return y == 0, e },
	}
}

// refused fails if a call does not return ErrArg with zero values beside it.
func refused(t *testing.T, calls map[string]call, what ...any) {
	t.Helper()
	for name, call := range calls {
		if zero, e := call(); !zero || e != api.ErrArg {
			t.Error(name, fmt.Sprint(what...), zero, e)
		}
	}
}
