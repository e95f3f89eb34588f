package proof_test

import (
	"slices"
	"testing"

	"ephemerist/api"
	"ephemerist/proof"
	"ephemerist/trial"
)

// P9.7
func TestBestAndFewest(t *testing.T) {
	three := set(0, 1, 1, 1, 2, 2, 2, 3, 3)
	for i, x := range []struct {
		p                api.ProofPage
		one, other, many int
		fewest           []api.ProofPair
		e                api.Errno
	}{
		{pageA(), 0, 2, 3, pairs(0, 2), api.OK}, {pageB(), 0, 1, 3, nil, api.OK}, {pageC(), 1, 2, 1, pairs(1, 2), api.OK}, {longest(), 0, 1, 6, pairs(0, 1), api.OK},
		// of two people one set each line
		{pageOfText(), 0, 1, 0, nil, api.ErrNone}, {page(2, set(0, 5, 5, 1, 5, 5), read(0, 1, 0, 1)), 0, 1, 0, nil, api.ErrNone},
		// of three who each set a line two pairs are needed, or one, if one of them has read before
		{page(3, three), 0, 1, 1, pairs(0, 1, 0, 2), api.OK}, {page(4, three), 0, 3, 2, pairs(0, 1, 0, 2), api.OK}, {page(5, three), 3, 4, 3, pairs(3, 4), api.OK}, {page(3, three, read(0, 1, 0, 2)), 0, 2, 3, pairs(0, 2), api.OK}, {page(3, three, read(1, 2, 0, 2)), 0, 1, 3, pairs(0, 1), api.OK},
		// some lines pass already, and are counted
		{page(4, three, read(2, 3, 0, 1)), 0, 1, 3, pairs(0, 1), api.OK}, {page(4, three, read(2, 3, 0, 0), read(1, 2, 0, 0)), 0, 3, 3, pairs(0, 3), api.OK},
		// of several pairs the first one, and not one with whom less pass
		{page(3, set(0, 5, 5)), 1, 2, 1, pairs(1, 2), api.OK}, {page(3, set(1, 5, 5)), 0, 2, 1, pairs(0, 2), api.OK}, {page(6, set(0, 5, 5, 1, 5, 5, 2, 5, 5, 3, 5, 5)), 4, 5, 4, pairs(4, 5), api.OK}, {page(6, set(0, 5, 5, 1, 5, 5, 2, 5, 5, 3, 5, 5, 4, 5, 5)), 0, 5, 4, pairs(0, 1, 0, 2), api.OK}, {page(6, set(0, 5, 5, 1, 5, 5, 2, 5, 5, 3, 5, 5, 4, 5, 5, 5, 5, 5)), 0, 1, 4, pairs(0, 1, 0, 2), api.OK},
		// one reader more is enough for a line, for which the setter does not count
		{page(3, set(0, 5, 5), read(0, 1, 0, 0)), 0, 2, 1, pairs(0, 2), api.OK}, {page(3, set(0, 5, 5), read(0, 2, 0, 0)), 0, 1, 1, pairs(0, 1), api.OK}, {page(4, set(0, 5, 5), read(0, 3, 0, 0), mend(1, 0, 5), read(1, 3, 0, 0)), 0, 1, 1, pairs(0, 1), api.OK},
	} {
		if one, other, many, e := proof.Best(x.p); e != api.OK || one != x.one || other != x.other || many != x.many {
			t.Error(i, one, other, many, e)
		}
		if got, e := proof.Fewest(x.p); e != x.e || !slices.Equal(got, x.fewest) {
			t.Error(i, got, e)
		}
	}
}

// P9.7: all pairs and all lists of pairs are tried.
func TestAllPairs(t *testing.T) {
	var lengths [3]int
	pages(t, 2500, func(t *testing.T, _ *dice, p api.ProofPage) {
		one, other, many := bestOf(p)
		if x, y, n, e := proof.Best(p); e != api.OK || x != one || y != other || n != many {
			t.Fatal(p, x, y, n, e, one, other, many)
		}
		want, f := fewestOf(p)
		got, e := proof.Fewest(p)
		if e != f || !slices.Equal(got, want) {
			t.Fatal(p, got, e, want, f)
		}
		if e == api.OK {
			lengths[len(got)]++
		}
	})
	if slices.Min(lengths[:]) < 100 {
		t.Error(lengths)
	}
}

// P9.7: with no pair that somebody proposes more lines pass; pairs that somebody proposes, and with which the page passes, are as many, or more.
func TestProposedPairs(t *testing.T) {
	found := 0
	pages(t, 2000, func(t *testing.T, d *dice, p api.ProofPage) {
		p = upTo(p, min(len(p.Log), api.ProofLog-4))
		one, other, many, e := proof.Best(p)
		best, f := proof.Passes(readBy(p, pairs(one, other)...))
		fewest, g := proof.Fewest(p)
		if e != api.OK || f != api.OK || len(best) != many {
			t.Fatal(p, one, other, many, best, e, f)
		}
		if pass, e := proof.Pass(readBy(p, fewest...)); e != api.OK || pass != (g == api.OK) {
			t.Fatal(p, fewest, pass, e, g)
		}
		all := pairsOf(p)
		for range 10 {
			proposed := trial.List(trial.Of(&d.Dice, all), trial.Of(&d.Dice, all), trial.Of(&d.Dice, all), trial.Of(&d.Dice, all))[:d.From(0, 4)]
			if len(proposed) == 1 {
				passes, e := proof.Passes(readBy(p, proposed...))
				if e != api.OK || len(passes) > many || len(passes) == many && comparePairs(proposed, pairs(one, other)) < 0 {
					t.Fatal(p, proposed, passes, one, other, many, e)
				}
			}
			pass, e := proof.Pass(readBy(p, proposed...))
			if e != api.OK || pass && (g != api.OK || len(proposed) < len(fewest)) {
				t.Fatal(p, proposed, pass, fewest, e, g)
			}
			if pass && len(proposed) > 0 {
				found++
			}
		}
	})
	if found < 500 {
		t.Error(found)
	}
}

// P9.7: the lists are increasing.
func TestFewestIsIncreasing(t *testing.T) {
	pages(t, 2000, func(t *testing.T, _ *dice, p api.ProofPage) {
		got, e := proof.Fewest(p)
		for i, pair := range got {
			if pair.One >= pair.Other || i > 0 && comparePairs(got[i-1:i], got[i:i+1]) >= 0 {
				t.Fatal(p, got, e)
			}
		}
		pass, f := proof.Pass(p)
		if f != api.OK || pass != (e == api.OK && len(got) == 0) {
			t.Fatal(p, got, e, pass, f)
		}
	})
}
