package proof_test

import (
	"slices"
	"testing"

	"ephemerist/api"
	"ephemerist/hands"
	"ephemerist/proof"
)

func errors(n ...int) []api.HandsError {
	var all []api.HandsError
	for two := range slices.Chunk(n, 2) {
		all = append(all, api.HandsError{Row: two[0], Kind: api.HandsKind(two[1])})
	}
	return all
}

// P9.4
func TestDiffersAndErrors(t *testing.T) {
	const turned, carry, sign, line = int(api.HandsTurned), int(api.HandsCarry), int(api.HandsSign), int(api.HandsLine)
	for i, x := range []struct {
		p       api.ProofPage
		differs []int
		errors  []api.HandsError
		e       api.Errno
	}{
		{pageA(), list(1, 2), nil, api.ErrNone}, {pageB(), list(2), errors(2, sign), api.OK}, {pageC(), list(0), nil, api.ErrNone}, {longest(), nil, nil, api.OK},
		{page(2, set(0, 123, 132, 0, 45, 35, 0, -7, 7, 1, 8, 77, 1, 77, 77)), list(0, 1, 2, 3), errors(0, turned, 1, carry, 2, sign, 3, line), api.OK},
		// of several kinds the first one; what was copied is the number that stands, not the Right one
		{page(2, set(0, 0, 10)), list(0), nil, api.ErrNone}, {page(2, set(0, 10, 0)), list(0), errors(0, carry), api.OK}, {page(2, set(0, 10, 1, 0, 1, 1)), list(0), errors(0, turned), api.OK}, {page(2, set(0, 10, 0, 0, 0, 0)), list(0), errors(0, carry), api.OK}, {page(2, set(0, 7, -7, 0, -7, -7)), list(0), errors(0, sign), api.OK},
		// the line that was skipped is the next Right one, and after the last one there is none
		{page(2, set(0, 8, 70, 0, 77, 70)), list(0, 1), nil, api.ErrNone}, {page(2, set(0, 77, 77, 0, 8, 77)), list(1), nil, api.ErrNone}, {page(2, set(0, 8, 77, 0, 77, 8)), list(0, 1), nil, api.ErrNone},
		// mends and falls make errors, and take them away
		{page(2, set(0, 5, 5), mend(0, 0, -5)), list(0), errors(0, sign), api.OK}, {page(2, set(0, 5, -5), mend(0, 0, 5)), nil, nil, api.OK}, {page(2, set(0, 10, 10), fall(0)), list(0), errors(0, turned), api.OK}, {page(2, set(0, 10, 100), fall(0)), nil, nil, api.OK}, {page(2, set(0, 5, 6), fall(0), mend(1, 0, 5)), nil, nil, api.OK}, {page(2, set(0, 0, 7), fall(0)), nil, nil, api.OK},
	} {
		if got, e := proof.Differs(x.p); e != api.OK || !slices.Equal(got, x.differs) {
			t.Error(i, got, e)
		}
		if got, e := proof.Errors(x.p); e != x.e || !slices.Equal(got, x.errors) {
			t.Error(i, got, e)
		}
	}
}

// P9.4: the errors are those that layer 2 returns.
func TestErrorsOfPages(t *testing.T) {
	copied := 0
	pages(t, 5000, func(t *testing.T, _ *dice, p api.ProofPage) {
		var right, now []int
		for line, l := range p.Lines {
			right, now = append(right, l.Right), append(now, numberOf(p, line))
		}
		want, f := hands.Errors(right, now)
		if got, e := proof.Errors(p); e != f || !slices.Equal(got, want) {
			t.Fatal(p, got, e, want, f)
		}
		differing := linesOf(p, func(line int) bool { return differs(p, line) })
		if got, e := proof.Differs(p); e != api.OK || !slices.Equal(got, differing) {
			t.Fatal(p, got, e, differing)
		}
		if f == api.OK && len(want) != len(differing) {
			t.Fatal(p, want, differing)
		}
		if len(want) > 0 {
			copied++
		}
	})
	if copied < 500 {
		t.Error(copied)
	}
}

// P9.5
func TestMissedAndWorst(t *testing.T) {
	two := set(0, 5, 6, 1, 7, 8)
	for i, x := range []struct {
		p            api.ProofPage
		missed       []api.ProofMiss
		worst, lines int
		e            api.Errno
	}{
		{pageA(), misses(0, 0, 0, 2), 1, 2, api.OK}, {pageB(), misses(0, 0, 0, 2), 1, 2, api.OK}, {pageC(), nil, 0, 0, api.ErrNone}, {pageOfText(), nil, 0, 0, api.ErrNone}, {longest(), nil, 0, 0, api.ErrNone},
		// nobody has read what differs
		{page(3, two), nil, 0, 0, api.ErrNone}, {page(3, two, read(0, 1, 0, 0), mend(2, 0, 5), mend(2, 1, 7), read(0, 1, 0, 1)), misses(0, 0), 0, 1, api.OK}, {page(3, two, mend(2, 0, 5), read(0, 1, 0, 0)), nil, 0, 0, api.ErrNone}, {page(3, set(0, 5, 5), read(0, 1, 0, 0), fall(0)), nil, 0, 0, api.ErrNone}, {page(3, set(0, 5, 50), read(0, 1, 0, 0), fall(0)), misses(0, 0), 0, 1, api.OK},
		// a setter misses a line, too, and a line is missed once more by each reading
		{page(2, set(0, 5, 6), read(0, 1, 0, 0), read(0, 1, 0, 0), read(0, 1, 0, 0)), misses(0, 0, 1, 0, 2, 0), 0, 3, api.OK}, {page(2, set(1, 5, 6), read(0, 1, 0, 0)), misses(0, 0), 0, 1, api.OK},
		// entries are numbered with those that are no readings
		{page(4, two, fall(1), mend(0, 0, 4), read(2, 3, 0, 1), mend(0, 0, 5), read(1, 3, 0, 1), mend(1, 1, 7), read(1, 2, 0, 1)), misses(2, 0, 2, 1, 4, 1), 3, 3, api.OK},
		// one reading of two lines, and two of one; of several the first one
		{page(6, two, read(4, 5, 0, 1), read(2, 3, 0, 0), read(1, 3, 1, 1)), misses(0, 0, 0, 1, 1, 0, 2, 1), 3, 2, api.OK}, {page(6, two, read(4, 5, 0, 1), read(2, 3, 0, 0), read(1, 2, 0, 0), read(1, 3, 0, 0)), misses(0, 0, 0, 1, 1, 0, 2, 0, 3, 0), 1, 2, api.OK}, {page(6, two, read(4, 5, 0, 1), read(1, 5, 0, 0)), misses(0, 0, 0, 1, 1, 0), 5, 3, api.OK},
	} {
		if got, e := proof.Missed(x.p); e != api.OK || !slices.Equal(got, x.missed) {
			t.Error(i, got, e)
		}
		if who, many, e := proof.Worst(x.p); e != x.e || who != x.worst || many != x.lines {
			t.Error(i, who, many, e)
		}
	}
}

// P9.5: nobody's readings miss more lines than those of the one that is returned.
func TestMissesOfPages(t *testing.T) {
	missing := 0
	pages(t, 5000, func(t *testing.T, _ *dice, p api.ProofPage) {
		want := missedOf(p)
		if got, e := proof.Missed(p); e != api.OK || !slices.Equal(got, want) {
			t.Fatal(p, got, e, want)
		}
		who, many, e := proof.Worst(p)
		if len(want) == 0 {
			if who != 0 || many != 0 || e != api.ErrNone {
				t.Fatal(p, who, many, e)
			}
			return
		}
		missing++
		all := missesOf(p)
		if e != api.OK || many != all[who] || many != slices.Max(all) || slices.Index(all, many) != who {
			t.Fatal(p, who, many, e, all)
		}
	})
	if missing < 500 {
		t.Error(missing)
	}
}

// P9.6
func TestUseless(t *testing.T) {
	three := set(0, 5, 5, 0, 5, 5, 0, 5, 5)
	for i, x := range []struct {
		p    api.ProofPage
		want []int
	}{
		{pageA(), nil}, {pageB(), nil}, {pageC(), list(0)}, {pageOfText(), nil}, {longest(), nil},
		// all lines that were read, some of them, and others
		{page(3, three, read(1, 2, 0, 2), fall(0), fall(1), fall(2)), list(0)}, {page(3, three, read(1, 2, 0, 2), fall(0), fall(2)), nil}, {page(3, three, read(1, 2, 0, 2), fall(1), fall(2)), nil}, {page(3, three, read(1, 2, 1, 1), fall(0), fall(2)), nil}, {page(3, three, read(1, 2, 1, 1), fall(0), fall(1)), list(0)}, {page(3, three, read(1, 2, 0, 1), mend(0, 1, 5), fall(2), mend(2, 0, 5)), list(0)},
		// changed before, and not after; a mend by a number that is that of a line
		{page(3, three, fall(0), read(1, 2, 0, 0)), nil}, {page(3, three, read(1, 2, 0, 0), fall(0), read(1, 2, 0, 0)), list(0)}, {page(3, three, read(1, 2, 0, 0), fall(0), read(1, 2, 0, 0), fall(0)), list(0, 2)}, {page(3, three, fall(1), read(1, 2, 0, 1), fall(0)), nil}, {page(3, three, read(1, 2, 0, 0), mend(0, 1, 0)), nil}, {page(3, three, read(0, 1, 1, 1), mend(1, 0, 1)), nil},
		// a reading that adds no reader counts, if its line was not changed
		{page(3, three, read(1, 2, 0, 2), read(1, 2, 0, 2)), nil}, {page(3, three, read(0, 1, 0, 0), read(0, 1, 1, 1), read(0, 1, 2, 2), mend(0, 1, 5)), list(1)},
	} {
		if got, e := proof.Useless(x.p); e != api.OK || !slices.Equal(got, x.want) {
			t.Error(i, got, e)
		}
	}
}

// P9.6: without the readings that count for nothing, all lines have the same readers.
func TestWithoutUseless(t *testing.T) {
	useless := 0
	pages(t, 4000, func(t *testing.T, _ *dice, p api.ProofPage) {
		got, e := proof.Useless(p)
		if want := uselessOf(p); e != api.OK || !slices.Equal(got, want) {
			t.Fatal(p, got, e, want)
		}
		useless += len(got)
		for line := range p.Lines {
			with, f := proof.Readers(p, line)
			without, g := proof.Readers(without(p, got...), line)
			if f != api.OK || g != api.OK || !slices.Equal(with, without) {
				t.Fatal(p, got, line, with, without, f, g)
			}
		}
	})
	if useless < 500 {
		t.Error(useless)
	}
}
