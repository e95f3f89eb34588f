package proof_test

import (
	"fmt"
	"slices"
	"testing"

	"ephemerist/api"
	"ephemerist/proof"
	"ephemerist/trial"
)

// P9.9: without a reading no more lines pass.
func TestWithoutReading(t *testing.T) {
	fewer := 0
	pages(t, 2000, func(t *testing.T, _ *dice, p api.ProofPage) {
		passes, e := proof.Passes(p)
		for at, entry := range p.Log {
			if entry.Kind != api.ProofRead {
				continue
			}
			now, f := proof.Passes(without(p, at))
			if e != api.OK || f != api.OK || slices.ContainsFunc(now, func(line int) bool { return !slices.Contains(passes, line) }) {
				t.Fatal(p, at, passes, now, e, f)
			}
			if len(now) < len(passes) {
				fewer++
			}
		}
	})
	if fewer < 500 {
		t.Error(fewer)
	}
}

// P9.9: if the page passes, and a line of it is changed, this line alone does not pass any more.
func TestChangedLine(t *testing.T) {
	pass := 0
	pages(t, 4000, func(t *testing.T, d *dice, p api.ProofPage) {
		p = withRoom(p)
		if is, _ := proof.Pass(p); !is {
			return
		}
		pass++
		for line := range p.Lines {
			by, number := d.From(0, p.People-1), d.written(p.Lines, line)
			for _, e := range trial.List(fall(line), mend(by, line, number), mend(by, line, numberOf(p, line))) {
				want := linesOf(p, func(other int) bool { return other != line })
				if got, f := proof.Passes(with(p, e)); f != api.OK || !slices.Equal(got, want) {
					t.Fatal(p, e, got, f)
				}
			}
		}
	})
	if pass < 500 {
		t.Error(pass)
	}
}

// P0.9: after a change a line passes just if two have read it from then on who did not set it.
func TestReadAfterChange(t *testing.T) {
	pages(t, 2000, func(t *testing.T, d *dice, p api.ProofPage) {
		p = upTo(p, min(len(p.Log), api.ProofLog-3))
		e := d.change(p)
		line := linesOf(p, func(line int) bool { return changes(e, line) })[0]
		one, other := d.reading(p), d.reading(p)
		now := with(p, e, one, other)
		setter := setterOf(now, line)
		readers := map[int]bool{}
		for _, r := range trial.List(one, other) {
			for _, person := range r.Numbers[:2] {
				if isReadIn(r, line) && person != setter {
					readers[person] = true
				}
			}
		}
		passes, f := proof.Passes(now)
		if f != api.OK || slices.Contains(passes, line) != (len(readers) >= 2) {
			t.Fatal(now, line, setter, readers, passes, f)
		}
	})
}

// result is what all functions return, with lists that can share memory.
type result struct {
	numbers [][]int
	errors  [][]api.HandsError
	misses  [][]api.ProofMiss
	pairs   [][]api.ProofPair
	lines   [][]api.ProofLine
	logs    [][]api.ProofEntry
	text    string
}

// resultsOf calls all functions twice.
func resultsOf(p api.ProofPage) result {
	var r result
	keep := func(n []int, _ api.Errno) { r.numbers = append(r.numbers, n) }
	r.text, _ = proof.Print(p)
	for range 2 {
		keep(proof.Now(p))
		keep(proof.Setters(p))
		keep(proof.Readers(p, 0))
		keep(proof.Short(p))
		keep(proof.Passes(p))
		keep(proof.Differs(p))
		keep(proof.Useless(p))
		errors, _ := proof.Errors(p)
		missed, _ := proof.Missed(p)
		fewest, _ := proof.Fewest(p)
		r.errors, r.misses, r.pairs = append(r.errors, errors), append(r.misses, missed), append(r.pairs, fewest)
		read, _ := proof.Read(r.text)
		r.lines, r.logs = append(r.lines, read.Lines), append(r.logs, read.Log)
		for _, e := range read.Log {
			r.numbers = append(r.numbers, e.Numbers)
		}
	}
	r.text += fmt.Sprintln(proof.Pass(p)) + fmt.Sprintln(proof.Worst(p)) + fmt.Sprintln(proof.Best(p))
	return r
}

// share tells whether lists of a result share memory, some of which are the
// argument's.
func (r result) share() bool {
	if trial.Share(r.numbers, func(n *int) { *n += 5 }) || trial.Share(r.errors, func(e *api.HandsError) { e.Row += 5 }) || trial.Share(r.misses, func(m *api.ProofMiss) { m.Line += 5 }) || trial.Share(r.pairs, func(p *api.ProofPair) { p.One += 5 }) || trial.Share(r.lines, func(l *api.ProofLine) { l.Set += 5 }) {
		return true
	}
	for i, log := range r.logs {
		for at := range log {
			log[at].Kind = api.ProofKind(5 + i)
		}
	}
	for i, log := range r.logs {
		if slices.ContainsFunc(log, func(e api.ProofEntry) bool { return e.Kind != api.ProofKind(5+i) }) {
			return true
		}
	}
	return false
}

// R4 and R8: arguments are not changed, results share no memory, and equal calls have equal results.
func TestMemory(t *testing.T) {
	behind := set(5, 6, 7)[0]
	for _, was := range append(others(), pageA()) {
		p := cloned(was)
		p.Lines = append(p.Lines, behind)[:len(was.Lines)]
		p.Log = append(p.Log, api.ProofEntry{Kind: 5})[:len(was.Log)]
		for at, e := range was.Log {
			p.Log[at].Numbers = trial.WithRoom(e.Numbers...)
		}
		r := resultsOf(p)
		first := fmt.Sprint(r)
		untouched := samePage(p, was) && p.Lines[:len(was.Lines)+1][len(was.Lines)] == behind && p.Log[:len(was.Log)+1][len(was.Log)].Kind == 5
		for at, e := range was.Log {
			untouched = untouched && trial.IsUntouched(p.Log[at].Numbers, e.Numbers...)
		}
		if !untouched {
			t.Error("an argument was changed", p)
		}
		for _, e := range p.Log {
			r.numbers = append(r.numbers, e.Numbers)
		}
		r.lines, r.logs = append(r.lines, p.Lines), append(r.logs, p.Log)
		if r.share() {
			t.Error("results share memory", was)
		}
		if again := fmt.Sprint(resultsOf(cloned(was))); again != first {
			t.Error(first, again)
		}
	}
}

// R3: nil and empty lists are the same value.
func TestEmptyLists(t *testing.T) {
	refused(t, callsOf(page(2, []api.ProofLine{}, []api.ProofEntry{}...), 0))
	refused(t, callsOf(page(2, nil), 0))
	refused(t, callsOf(with(pageA(), api.ProofEntry{Kind: api.ProofFall, Numbers: []int{}}), 0))
	refused(t, callsOf(with(pageA(), api.ProofEntry{Kind: api.ProofFall}), 0))
	for _, log := range [][]api.ProofEntry{nil, {}} {
		sameStanding(t, page(2, set(0, 5, 5), log...), standing{list(5), list(0), [][]int{nil}, list(2), nil, false})
		if !texts().ReadsBack(page(2, set(0, 5, 5), log...)) {
			t.Error(log)
		}
	}
}

// P0.12: no arguments make a function panic, and whatever comes with an error is zero.
func TestAnyArguments(t *testing.T) {
	d := &dice{trial.Dice{State: 5}}
	one := func() int {
		return trial.Of(&d.Dice, list(least, most, -1000, 1000, 999, -999, 100, 10, 7, 6, 5, 3, 2, 1, 0, -1))
	}
	for range 5000 {
		p := with(d.any(), d.any().Log...)
		p = cloned(upTo(p, min(len(p.Log), d.From(1, api.ProofLog+1))))
		line := &p.Lines[d.From(0, len(p.Lines)-1)]
		fields := trial.List(&p.People, &line.Setter, &line.Right, &line.Set)
		for at := range p.Log {
			e := &p.Log[at]
			switch d.From(0, 40) {
			case 0:
				e.Kind = api.ProofKind(one())
			case 1:
				e.Numbers = e.Numbers[1:]
			case 2:
				e.Numbers = append(e.Numbers, one())
			case 3:
				e.Numbers[d.From(0, len(e.Numbers)-1)] = one()
			}
		}
		switch which := d.From(0, 15); {
		case which < len(fields):
			*fields[which] = one()
		case which == len(fields):
			p.Lines = append(p.Lines, p.Lines...)
		}
		for name, call := range callsOf(p, one()) {
			zero, e := call()
			if e != api.OK && !zero || e == api.OK && proof.Check(p) != api.OK {
				t.Fatal(name, p, zero, e)
			}
		}
	}
}
