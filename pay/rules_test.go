package pay_test

import (
	"fmt"
	"slices"
	"testing"

	"ephemerist/api"
	"ephemerist/pay"
	"ephemerist/trial"
)

// better returns a book in which hands did more, and made fewer errors.
func (d *dice) better(b api.PayBook) api.PayBook {
	b = cloned(b)
	more := func(n *int, most int) {
		if d.From(0, 2) == 0 {
			*n = d.From(*n, min(*n+3, most))
		}
	}
	for i := range b.Lines {
		l := &b.Lines[i]
		more(&l.Sheets, api.PaySheets)
		more(&l.Mornings, api.PayMornings)
		more(&l.Posts, api.PayPosts)
		low := max(0, l.Errors.Low-d.From(0, 2))
		high := d.From(low, min(l.Errors.High, low+api.PayWide))
		l.Errors = span(low, high)
	}
	return b
}

// P8.8: more sheets, mornings and posts, and fewer errors, never make less be paid to a hand.
func TestNeverLess(t *testing.T) {
	books(t, 800, func(t *testing.T, d *dice, b api.PayBook) {
		now := d.better(b)
		for hand := range b.Hands {
			before, e := pay.Total(b, hand)
			after, f := pay.Total(now, hand)
			if e != api.OK || f != api.OK || after.Low < before.Low || after.High < before.High {
				t.Fatal(b, now, hand, before, after, e, f)
			}
			sum := d.sum(b, hand)
			least, e := pay.Rate(b, hand, sum)
			less, f := pay.Rate(now, hand, sum)
			if e == api.OK && (f != api.OK || less > least) {
				t.Fatal(b, now, hand, sum, least, less, e, f)
			}
		}
	})
}

// P8.8: in a truth with fewer errors no hand is paid less.
func TestNeverLessInTruths(t *testing.T) {
	books(t, 2000, func(t *testing.T, d *dice, b api.PayBook) {
		many, few := d.truth(b), d.truth(b)
		for i := range few {
			few[i] = min(few[i], many[i])
		}
		before, e := pay.Pays(b, many)
		after, f := pay.Pays(b, few)
		more := make([]int, b.Hands)
		for i, l := range b.Lines {
			if e != api.OK || f != api.OK {
				t.Fatal(b, many, few, e, f)
			}
			more[l.Hand] += after[i] - before[i]
		}
		if slices.Min(more) < 0 {
			t.Fatal(b, many, few, before, after)
		}
	})
}

// of returns the lines of a hand in a list that has something for each line.
func of[T any](b api.PayBook, hand int, all []T) []T {
	var some []T
	for i, x := range all {
		if b.Lines[i].Hand == hand {
			some = append(some, x)
		}
	}
	return some
}

// P8.8: lines of other hands change nothing of what a hand is paid.
func TestOtherHands(t *testing.T) {
	books(t, 700, func(t *testing.T, d *dice, b api.PayBook) {
		truth := d.truth(b)
		pays, _ := pay.Pays(b, truth)
		bounds, _ := pay.Bounds(b)
		for hand := range b.Hands {
			alone := b
			alone.Lines = of(b, hand, b.Lines)
			if len(alone.Lines) == 0 {
				continue
			}
			own := of(b, hand, truth)
			paysAlone, e := pay.Pays(alone, own)
			boundsAlone, f := pay.Bounds(alone)
			if e != api.OK || f != api.OK || !slices.Equal(paysAlone, of(b, hand, pays)) || !slices.Equal(boundsAlone, of(b, hand, bounds)) {
				t.Fatal(b, truth, hand, pays, paysAlone, bounds, boundsAlone, e, f)
			}
			sum := d.sum(b, hand)
			if with, without := fmt.Sprintln(pay.Total(b, hand))+fmt.Sprintln(pay.Rest(b, truth, hand))+fmt.Sprintln(pay.Rate(b, hand, sum)), fmt.Sprintln(pay.Total(alone, hand))+fmt.Sprintln(pay.Rest(alone, own, hand))+fmt.Sprintln(pay.Rate(alone, hand, sum)); with != without {
				t.Fatal(b, truth, hand, with, without)
			}
		}
	})
}

// results returns the lists that all functions return, and all else as a text.
func results(b api.PayBook, truth []int) ([][]int, [][]api.Span, [][]api.PayLine, string) {
	var numbers [][]int
	var bounds [][]api.Span
	var lines [][]api.PayLine
	keep := func(n []int, _ api.Errno) { numbers = append(numbers, n) }
	text, _ := pay.Print(b)
	for range 2 {
		keep(pay.Pays(b, truth))
		keep(pay.Agrees(b))
		keep(pay.Share(b, 100))
		spans, _ := pay.Bounds(b)
		read, _ := pay.Read(text)
		bounds, lines = append(bounds, spans), append(lines, read.Lines)
	}
	return numbers, bounds, lines, text + fmt.Sprintln(pay.Owed(b, 0)) + fmt.Sprintln(pay.Rest(b, truth, 0)) + fmt.Sprintln(pay.Total(b, 0)) + fmt.Sprintln(pay.First(b)) + fmt.Sprintln(pay.Errors(b, 0)) + fmt.Sprintln(pay.Rate(b, 0, 100))
}

// R4 and R8: arguments are not changed, results share no memory, and equal calls have equal results.
func TestMemory(t *testing.T) {
	d := &dice{}
	behind := line(2, 7, 7, 7, 7, 7, 7)
	for _, was := range append(others(), bookA()) {
		b, wasTruth := was, d.truth(was)
		b.Lines = append(slices.Clone(was.Lines), behind)[:len(was.Lines)]
		truth := trial.WithRoom(slices.Clone(wasTruth)...)
		numbers, bounds, lines, text := results(b, truth)
		first := fmt.Sprint(numbers, bounds, lines, text)
		if trial.Share(append(numbers, truth), func(n *int) { *n += 5 }) || trial.Share(bounds, func(s *api.Span) { s.Low += 5 }) || trial.Share(append(lines, b.Lines), func(l *api.PayLine) { l.Sheets += 5 }) {
			t.Error("results share memory", was)
		}
		// what was changed on purpose is as it was
		copy(truth[:len(truth)+1], append(slices.Clone(wasTruth), 5))
		copy(b.Lines[:len(b.Lines)+1], append(slices.Clone(was.Lines), behind))
		numbers, bounds, lines, text = results(b, truth)
		if !sameBook(b, was) || b.Lines[:len(b.Lines)+1][len(b.Lines)] != behind || !trial.IsUntouched(truth, wasTruth...) {
			t.Error("an argument was changed", b, truth)
		}
		if again := fmt.Sprint(numbers, bounds, lines, text); again != first {
			t.Error(first, again)
		}
	}
}

// R3: nil and empty lists are the same value.
func TestEmptyLists(t *testing.T) {
	refused(t, callsOf(book(1, 1, 0, 0, 0, 0, []api.PayLine{}...), []int{}, 0, 0, 0))
	refused(t, callsOf(book(1, 1, 0, 0, 0, 0), nil, 0, 0, 0))
	refused(t, truthCallsOf(bookA(), []int{}, 0))
	refused(t, truthCallsOf(bookA(), nil, 0))
}

// P0.12: no arguments make a function panic, and whatever comes with an error is zero.
func TestAnyArguments(t *testing.T) {
	d := &dice{trial.Dice{State: 5}}
	one := func() int {
		return trial.Of(&d.Dice, list(least, most, -100, mostFarthings+1, mostFarthings, 801, 800, 49, 48, 21, 20, 19, 12, 11, 4, 3, 2, 1, 0, -1))
	}
	for range 3000 {
		b := d.any()
		truth, at := d.truth(b), d.From(0, len(b.Lines)-1)
		l := &b.Lines[at]
		fields := trial.List(&b.Hands, &b.Unit, &b.Sheet, &b.Error, &b.Morning, &b.Post, &l.Hand, &l.Sheets, &l.Errors.Low, &l.Errors.High, &l.Mornings, &l.Posts, &l.Paid.Pounds, &l.Paid.Shillings, &l.Paid.Pence, &l.Paid.Farthings, &truth[at])
		if which := d.From(0, len(fields)+9); which < len(fields) {
			*fields[which] = one()
		}
		switch d.From(0, 9) {
		case 0:
			b.Lines = append(b.Lines, b.Lines...)
		case 1:
			truth = truth[1:]
		case 2:
			truth = append(truth, one())
		}
		for name, call := range callsOf(b, truth, one(), one(), one()) {
			zero, e := call()
			if e != api.OK && !zero || e == api.OK && pay.Check(b) != api.OK {
				t.Fatal(name, b, truth, zero, e)
			}
		}
	}
}
