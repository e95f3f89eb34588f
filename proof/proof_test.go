package proof_test

import (
	"slices"
	"testing"

	"ephemerist/api"
	"ephemerist/proof"
	"ephemerist/trial"
)

// P9.1
func TestCheck(t *testing.T) {
	pages(t, 1000, func(t *testing.T, _ *dice, p api.ProofPage) {
		if e := proof.Check(p); e != api.OK {
			t.Error(p, e)
		}
	})
	// all that an entry can have at most, and at least
	for i, e := range trial.List(read(0, 3, 0, 2), read(2, 3, 2, 2), read(0, 1, 0, 0), mend(3, 2, 999), mend(0, 0, -999), fall(0), fall(2)) {
		if f := proof.Check(with(pageA(), e)); f != api.OK {
			t.Error(i, f)
		}
	}
}

// P9.1 to P9.8, P0.12: each function refuses each page that is not as defined.
func TestBadPages(t *testing.T) {
	for i, p := range badPages() {
		if e := proof.Check(p); e != api.ErrArg {
			t.Error(i, p, e)
		}
		refused(t, callsOf(p, 0), "page ", i)
	}
}

// P9.2: there is no such line.
func TestBadLines(t *testing.T) {
	for _, p := range trial.List(pageA(), pageB()) {
		for _, line := range list(-1, 3, 6, least, most) {
			refused(t, map[string]call{"Readers": callsOf(p, line)["Readers"]}, "line ", line)
		}
	}
	refused(t, map[string]call{"Readers": callsOf(pageC(), 1)["Readers"]})
}

// standing is what stands on a page.
type standing struct {
	now, setters []int
	readers      [][]int
	short        []int
	passes       []int
	pass         bool
}

// standingOf returns what stands on a page, by the second way.
func standingOf(p api.ProofPage) standing {
	x := standing{passes: passesOf(p)}
	for line := range p.Lines {
		readers := readersOf(p, line)
		x.now = append(x.now, numberOf(p, line))
		x.setters = append(x.setters, setterOf(p, line))
		x.readers = append(x.readers, readers)
		x.short = append(x.short, max(2, len(readers))-len(readers))
	}
	x.pass = len(x.passes) == len(p.Lines)
	return x
}

func sameStanding(t *testing.T, p api.ProofPage, want standing) {
	t.Helper()
	if y, e := proof.Now(p); e != api.OK || !slices.Equal(y, want.now) {
		t.Fatal(p, y, e, want.now)
	}
	if y, e := proof.Setters(p); e != api.OK || !slices.Equal(y, want.setters) {
		t.Fatal(p, y, e, want.setters)
	}
	for line, readers := range want.readers {
		if y, e := proof.Readers(p, line); e != api.OK || !slices.Equal(y, readers) {
			t.Fatal(p, line, y, e, readers)
		}
	}
	if y, e := proof.Short(p); e != api.OK || !slices.Equal(y, want.short) {
		t.Fatal(p, y, e, want.short)
	}
	if y, e := proof.Passes(p); e != api.OK || !slices.Equal(y, want.passes) {
		t.Fatal(p, y, e, want.passes)
	}
	if y, e := proof.Pass(p); e != api.OK || y != want.pass {
		t.Fatal(p, y, e, want.pass)
	}
}

// P9.1, P9.2, P9.3
func TestWhatStands(t *testing.T) {
	one := set(0, 5, 5)
	for _, x := range []struct {
		p    api.ProofPage
		want standing
	}{
		{pageA(), standing{list(123, 4, 7), list(2, 1, 0), [][]int{{0, 3}, nil, {1, 2}}, list(0, 2, 0), list(0, 2), false}},
		{pageB(), standing{list(123, 45, 7), list(2, 1, 0), [][]int{{0, 3}, {0, 2, 3}, {1, 2}}, list(0, 0, 0), list(0, 1, 2), true}},
		{pageC(), standing{list(0), list(0), [][]int{nil}, list(2), nil, false}},
		{pageOfText(), standing{list(0), list(0), [][]int{nil}, list(2), nil, false}},
		{longest(), standing{list(-999, -999, -999, -999, -999, -999), list(5, 5, 5, 5, 5, 5), make([][]int, 6), list(2, 2, 2, 2, 2, 2), nil, false}},
		// who sets a line does not read it, before or after
		{page(2, one, read(0, 1, 0, 0)), standing{list(5), list(0), [][]int{{1}}, list(1), nil, false}},
		{page(2, one, read(0, 1, 0, 0), mend(1, 0, 5)), standing{list(5), list(1), [][]int{nil}, list(2), nil, false}},
		{page(2, one, mend(1, 0, 5), read(0, 1, 0, 0)), standing{list(5), list(1), [][]int{{0}}, list(1), nil, false}},
		{page(2, one, mend(1, 0, 5), read(0, 1, 0, 0), mend(0, 0, 6), read(0, 1, 0, 0)), standing{list(6), list(0), [][]int{{1}}, list(1), nil, false}},
		// the setter stays when type falls out
		{page(3, one, mend(1, 0, 5), fall(0), read(0, 1, 0, 0), read(1, 2, 0, 0)), standing{list(0), list(1), [][]int{{0, 2}}, list(0), list(0), true}},
		// who reads twice is one reader
		{page(3, one, read(0, 1, 0, 0), read(0, 1, 0, 0)), standing{list(5), list(0), [][]int{{1}}, list(1), nil, false}},
		{page(4, one, read(0, 1, 0, 0), read(0, 3, 0, 0)), standing{list(5), list(0), [][]int{{1, 3}}, list(0), list(0), true}},
		{page(6, one, read(4, 5, 0, 0), read(2, 3, 0, 0), read(0, 1, 0, 0)), standing{list(5), list(0), [][]int{{1, 2, 3, 4, 5}}, list(0), list(0), true}},
		// a line is changed by a mend with the same number, and by a fall that leaves 0
		{page(3, one, read(1, 2, 0, 0), mend(0, 0, 5)), standing{list(5), list(0), [][]int{nil}, list(2), nil, false}},
		{page(3, set(0, 0, 0), read(1, 2, 0, 0), fall(0)), standing{list(0), list(0), [][]int{nil}, list(2), nil, false}},
		// figures fall out
		{page(2, set(0, 1, -45, 1, 2, 9, 1, 3, 999, 0, 4, -999, 0, 5, -9, 0, 6, 10), fall(0), fall(1), fall(2), fall(3), fall(4), fall(5)), standing{list(-4, 0, 99, -99, 0, 1), list(0, 1, 1, 0, 0, 0), make([][]int, 6), list(2, 2, 2, 2, 2, 2), nil, false}},
		{page(2, set(0, 1, -456, 0, 2, 678), fall(0), fall(1), fall(0), fall(1), fall(1)), standing{list(-4, 0), list(0, 0), make([][]int, 2), list(2, 2), nil, false}},
		// a reading reads its own lines alone
		{page(3, set(0, 1, 1, 0, 1, 1, 0, 1, 1, 0, 1, 1), read(1, 2, 1, 2)), standing{list(1, 1, 1, 1), list(0, 0, 0, 0), [][]int{nil, {1, 2}, {1, 2}, nil}, list(2, 0, 0, 2), list(1, 2), false}},
		{page(3, set(0, 1, 1, 0, 1, 1, 0, 1, 1), read(1, 2, 0, 0), read(1, 2, 2, 2)), standing{list(1, 1, 1), list(0, 0, 0), [][]int{{1, 2}, nil, {1, 2}}, list(0, 2, 0), list(0, 2), false}},
	} {
		sameStanding(t, x.p, x.want)
	}
}

// P9.1, P9.2, P9.3, P0.9
func TestWhatStandsOnPages(t *testing.T) {
	pass := 0
	pages(t, 5000, func(t *testing.T, _ *dice, p api.ProofPage) {
		want := standingOf(p)
		sameStanding(t, p, want)
		if want.pass {
			pass++
		}
	})
	if pass < 500 || pass > 4500 {
		t.Error("the pages are not of both kinds", pass)
	}
}

// P9.1: an entry changes its own line alone, and a reading none.
func TestOneEntry(t *testing.T) {
	pages(t, 2000, func(t *testing.T, _ *dice, p api.ProofPage) {
		for at, e := range p.Log {
			numbers, _ := proof.Now(upTo(p, at))
			setters, _ := proof.Setters(upTo(p, at))
			now, f := proof.Now(upTo(p, at+1))
			who, g := proof.Setters(upTo(p, at+1))
			for line := range p.Lines {
				switch {
				case changes(e, line) && e.Kind == api.ProofMend:
					numbers[line], setters[line] = e.Numbers[2], e.Numbers[0]
				case changes(e, line):
					numbers[line] = fallen(numbers[line])
				}
			}
			if f != api.OK || g != api.OK || !slices.Equal(now, numbers) || !slices.Equal(who, setters) {
				t.Fatal(p, at, now, who, numbers, setters, f, g)
			}
		}
	})
}

// withRoom returns a page with an entry less, if it has as many as there can be.
func withRoom(p api.ProofPage) api.ProofPage { return upTo(p, min(len(p.Log), api.ProofLog-1)) }

// P9.2, P9.3: after a further reading its lines have the readers that they had, and the pair, without their setters; and what passed still passes.
func TestFurtherReading(t *testing.T) {
	pages(t, 2000, func(t *testing.T, d *dice, p api.ProofPage) {
		p = withRoom(p)
		e := d.reading(p)
		now := with(p, e)
		setters, _ := proof.Setters(p)
		for line := range p.Lines {
			want, _ := proof.Readers(p, line)
			if isReadIn(e, line) {
				want = slices.Concat(want, e.Numbers[:2])
				want = slices.DeleteFunc(want, func(person int) bool { return person == setters[line] })
				slices.Sort(want)
				want = slices.Compact(want)
			}
			if got, f := proof.Readers(now, line); f != api.OK || !slices.Equal(got, want) {
				t.Fatal(p, e, line, got, f, want)
			}
		}
		before, f := proof.Passes(p)
		after, g := proof.Passes(now)
		if f != api.OK || g != api.OK || slices.ContainsFunc(before, func(line int) bool { return !slices.Contains(after, line) }) {
			t.Fatal(p, e, before, after, f, g)
		}
	})
}

// P9.2, P9.3: a line passes just if no reader lacks, and the page if all lines do.
func TestShortAndPasses(t *testing.T) {
	pages(t, 2000, func(t *testing.T, _ *dice, p api.ProofPage) {
		short, e := proof.Short(p)
		passes, f := proof.Passes(p)
		pass, g := proof.Pass(p)
		for line, lack := range short {
			readers, h := proof.Readers(p, line)
			if h != api.OK || lack < 0 || lack > 0 && lack+len(readers) != 2 || lack == 0 && len(readers) < 2 || (lack == 0) != slices.Contains(passes, line) {
				t.Fatal(p, line, short, passes, readers, h)
			}
		}
		if e != api.OK || f != api.OK || g != api.OK || !slices.IsSorted(passes) || pass != (len(passes) == len(p.Lines)) {
			t.Fatal(p, short, passes, pass, e, f, g)
		}
	})
}
