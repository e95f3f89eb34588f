package proof_test

import (
	"fmt"
	"math/bits"
	"slices"
	"strconv"
	"testing"

	"ephemerist/api"
	"ephemerist/proof"
	"ephemerist/trial"
)

// This file has a second way to each result: the log is gone through backwards
// for each line and each of the people, figures fall out of written numbers, and
// all lists of pairs are tried.

const most, least = 1<<63 - 1, -1 << 63

func list(n ...int) []int { return trial.List(n...) }

func read(one, other, from, to int) api.ProofEntry {
	return api.ProofEntry{Kind: api.ProofRead, Numbers: list(one, other, from, to)}
}

func mend(by, line, number int) api.ProofEntry {
	return api.ProofEntry{Kind: api.ProofMend, Numbers: list(by, line, number)}
}

func fall(line int) api.ProofEntry {
	return api.ProofEntry{Kind: api.ProofFall, Numbers: list(line)}
}

// set returns lines of three numbers each.
func set(n ...int) []api.ProofLine {
	var lines []api.ProofLine
	for three := range slices.Chunk(n, 3) {
		lines = append(lines, api.ProofLine{Setter: three[0], Right: three[1], Set: three[2]})
	}
	return lines
}

func page(people int, lines []api.ProofLine, log ...api.ProofEntry) api.ProofPage {
	return api.ProofPage{People: people, Lines: lines, Log: log}
}

func misses(n ...int) []api.ProofMiss {
	var all []api.ProofMiss
	for two := range slices.Chunk(n, 2) {
		all = append(all, api.ProofMiss{Entry: two[0], Line: two[1]})
	}
	return all
}

func pairs(n ...int) []api.ProofPair {
	var all []api.ProofPair
	for two := range slices.Chunk(n, 2) {
		all = append(all, api.ProofPair{One: two[0], Other: two[1]})
	}
	return all
}

// pageA, pageB and pageC are the pages of the chapter.
func pageA() api.ProofPage {
	return page(4, set(0, 123, 132, 1, 45, 45, 0, -7, 7), read(1, 2, 0, 2), mend(2, 0, 123), read(0, 3, 0, 1), fall(1))
}

func pageB() api.ProofPage { return upTo(pageA(), 3) }

func pageC() api.ProofPage { return page(3, set(0, 5, 5), read(1, 2, 0, 0), fall(0)) }

// pageOfText returns the page of the chapter's text.
func pageOfText() api.ProofPage { return page(2, set(0, 5, 5), fall(0)) }

// longest returns a page with a text that is as long as any.
func longest() api.ProofPage {
	return page(6, slices.Repeat(set(5, -999, -999), 6), slices.Repeat(trial.List(mend(5, 5, -999)), 10)...)
}

// others are pages of other forms: without a log, with entries of one kind alone,
// with as many people, lines and entries as there can be.
func others() []api.ProofPage {
	whole := slices.Repeat(trial.List(read(0, 1, 0, 5)), 10)
	falls := slices.Repeat(trial.List(fall(0)), 10)
	return trial.List(pageB(), pageC(), pageOfText(), longest(), page(2, set(0, 5, 6)), page(2, set(1, -999, 999)), page(3, set(0, 1, 1, 1, 2, 2, 2, 3, 3)), page(6, set(0, 1, 1, 1, 2, 2, 2, 3, 3, 3, 4, 4, 4, 5, 5, 5, 6, 6)), page(6, set(0, 1, 2, 1, 2, 3, 2, 3, 4, 3, 4, 5, 4, 5, 6, 5, 6, 7), whole...), page(6, set(0, 7, -999), falls...), page(2, set(0, 5, 5), read(0, 1, 0, 0)), page(3, set(0, 5, 6), read(0, 1, 0, 0), mend(2, 0, 7), read(1, 2, 0, 0)))
}

func cloned(p api.ProofPage) api.ProofPage {
	p.Lines, p.Log = slices.Clone(p.Lines), slices.Clone(p.Log)
	for i, e := range p.Log {
		p.Log[i].Numbers = slices.Clone(e.Numbers)
	}
	return p
}

func samePage(a, b api.ProofPage) bool { return fmt.Sprint(a) == fmt.Sprint(b) }

// upTo returns a page with so many of its entries.
func upTo(p api.ProofPage, end int) api.ProofPage {
	p.Log = p.Log[:end:end]
	return p
}

// without returns a page without some of its entries.
func without(p api.ProofPage, some ...int) api.ProofPage {
	log := p.Log
	p.Log = nil
	for at, e := range log {
		if !slices.Contains(some, at) {
			p.Log = append(p.Log, e)
		}
	}
	return p
}

// with returns a page with some entries more.
func with(p api.ProofPage, more ...api.ProofEntry) api.ProofPage {
	p.Log = slices.Concat(p.Log, more)
	return p
}

// readBy returns a page after some pairs have read all of it.
func readBy(p api.ProofPage, some ...api.ProofPair) api.ProofPage {
	for _, pair := range some {
		p = with(p, read(pair.One, pair.Other, 0, len(p.Lines)-1))
	}
	return p
}

// changes tells whether an entry changes a line.
func changes(e api.ProofEntry, line int) bool {
	return e.Kind == api.ProofMend && e.Numbers[1] == line || e.Kind == api.ProofFall && e.Numbers[0] == line
}

// changedAt returns the entry that changed a line for the last time, -1 if none
// did.
func changedAt(p api.ProofPage, line int) int {
	at := len(p.Log) - 1
	for at >= 0 && !changes(p.Log[at], line) {
		at--
	}
	return at
}

// fallen returns a number of which the last figure fell out.
func fallen(n int) int {
	written := strconv.Itoa(n)
	left, e := strconv.Atoi(written[:len(written)-1])
	if e != nil {
		return 0
	}
	return left
}

// numberOf returns the number of a line.
func numberOf(p api.ProofPage, line int) int {
	at := changedAt(p, line)
	switch {
	case at < 0:
		return p.Lines[line].Set
	case p.Log[at].Kind == api.ProofMend:
		return p.Log[at].Numbers[2]
	}
	return fallen(numberOf(upTo(p, at), line))
}

// setterOf returns the setter of a line.
func setterOf(p api.ProofPage, line int) int {
	at := changedAt(p, line)
	switch {
	case at < 0:
		return p.Lines[line].Setter
	case p.Log[at].Kind == api.ProofMend:
		return p.Log[at].Numbers[0]
	}
	return setterOf(upTo(p, at), line)
}

// isReadIn tells whether an entry reads a line.
func isReadIn(e api.ProofEntry, line int) bool {
	return e.Kind == api.ProofRead && e.Numbers[2] <= line && line <= e.Numbers[3]
}

// readersOf returns the readers of a line.
func readersOf(p api.ProofPage, line int) []int {
	var readers []int
	for person := range p.People {
		for _, e := range p.Log[changedAt(p, line)+1:] {
			if person != setterOf(p, line) && isReadIn(e, line) && slices.Contains(e.Numbers[:2], person) {
				readers = append(readers, person)
				break
			}
		}
	}
	return readers
}

// differs tells whether a line differs.
func differs(p api.ProofPage, line int) bool { return numberOf(p, line) != p.Lines[line].Right }

// linesOf returns all lines of which something is so.
func linesOf(p api.ProofPage, is func(line int) bool) []int {
	var lines []int
	for line := range p.Lines {
		if is(line) {
			lines = append(lines, line)
		}
	}
	return lines
}

// passesOf returns all lines that pass.
func passesOf(p api.ProofPage) []int {
	return linesOf(p, func(line int) bool { return len(readersOf(p, line)) > 1 })
}

// missedOf returns all lines that readings miss.
func missedOf(p api.ProofPage) []api.ProofMiss {
	var missed []api.ProofMiss
	for at, e := range p.Log {
		for _, line := range linesOf(p, func(line int) bool { return isReadIn(e, line) && differs(upTo(p, at), line) }) {
			missed = append(missed, misses(at, line)...)
		}
	}
	return missed
}

// missesOf returns how many lines the readings of each of the people miss.
func missesOf(p api.ProofPage) []int {
	many := make([]int, p.People)
	for _, m := range missedOf(p) {
		for _, person := range p.Log[m.Entry].Numbers[:2] {
			many[person]++
		}
	}
	return many
}

// uselessOf returns all readings that count for nothing.
func uselessOf(p api.ProofPage) []int {
	var useless []int
	for at, e := range p.Log {
		read := linesOf(p, func(line int) bool { return isReadIn(e, line) })
		still := linesOf(p, func(line int) bool { return isReadIn(e, line) && changedAt(p, line) < at })
		if len(read) > 0 && len(still) == 0 {
			useless = append(useless, at)
		}
	}
	return useless
}

// pairsOf returns all pairs of the people.
func pairsOf(p api.ProofPage) []api.ProofPair {
	var all []api.ProofPair
	for n := range p.People * p.People {
		if one, other := n/p.People, n%p.People; one < other {
			all = append(all, api.ProofPair{One: one, Other: other})
		}
	}
	return all
}

// bestOf returns the pair with which most lines pass, and how many.
func bestOf(p api.ProofPage) (int, int, int) {
	var best api.ProofPair
	many := -1
	for _, pair := range pairsOf(p) {
		if now := len(passesOf(readBy(p, pair))); now > many {
			best, many = pair, now
		}
	}
	return best.One, best.Other, many
}

// comparePairs compares lists of pairs in lexicographic order.
func comparePairs(a, b []api.ProofPair) int {
	numbers := func(some []api.ProofPair) []int {
		var n []int
		for _, pair := range some {
			n = append(n, pair.One, pair.Other)
		}
		return n
	}
	return slices.Compare(numbers(a), numbers(b))
}

// fewestOf returns the shortest list of pairs with which the page passes: all
// lists are gone through that are not longer than one with which it does.
func fewestOf(p api.ProofPage) ([]api.ProofPair, api.Errno) {
	all := pairsOf(p)
	fewest, found := all, false
	for some := range 1 << len(all) {
		if bits.OnesCount(uint(some)) > len(fewest) {
			continue
		}
		var list []api.ProofPair
		people := 0
		for i, pair := range all {
			if some>>i&1 == 1 {
				list = append(list, pair)
				people |= 1<<pair.One | 1<<pair.Other
			}
		}
		better := !found || len(list) < len(fewest) || comparePairs(list, fewest) < 0
		if better && passesReadBy(p, people) {
			fewest, found = list, true
		}
	}
	if !found {
		return nil, api.ErrNone
	}
	return fewest, api.OK
}

// passesReadBy tells whether a page passes after some people, who are the bits of
// a number, have read all of it.
func passesReadBy(p api.ProofPage, people int) bool {
	for line := range p.Lines {
		readers := people &^ (1 << setterOf(p, line))
		for _, person := range readersOf(p, line) {
			readers |= 1 << person
		}
		if bits.OnesCount(uint(readers)) < 2 {
			return false
		}
	}
	return true
}

type dice struct{ trial.Dice }

// number returns a number of few figures, or any one.
func (d *dice) number() int {
	return trial.Of(&d.Dice, list(0, d.From(-9, 9), d.From(-99, 99), d.From(-999, 999), d.From(0, 999), 999, -999))
}

// written returns what is set for the Right number of a line: most often this one,
// or another one by some error.
func (d *dice) written(lines []api.ProofLine, line int) int {
	right, next := lines[line].Right, lines[min(line+1, len(lines)-1)].Right
	turned := right + 9*(right%10-right/10%10)
	return trial.Of(&d.Dice, list(right, right, right, right, right, -right, next, turned, d.number()))
}

// lines returns some lines that somebody has set.
func (d *dice) lines(people int) []api.ProofLine {
	lines := make([]api.ProofLine, d.From(1, api.ProofLines))
	for line := range lines {
		lines[line].Right = d.number()
	}
	for line := range lines {
		lines[line].Setter, lines[line].Set = d.From(0, people-1), d.written(lines, line)
	}
	return lines
}

// reading returns an entry by which a pair reads the page, or a part of it.
func (d *dice) reading(p api.ProofPage) api.ProofEntry {
	last := len(p.Lines) - 1
	from := trial.Of(&d.Dice, list(0, 0, d.From(0, last)))
	pair := trial.Of(&d.Dice, pairsOf(p))
	return read(pair.One, pair.Other, from, trial.Of(&d.Dice, list(last, last, from, d.From(from, last))))
}

// change returns an entry that changes a line.
func (d *dice) change(p api.ProofPage) api.ProofEntry {
	line := d.From(0, len(p.Lines)-1)
	return trial.Of(&d.Dice, trial.List(fall(line), mend(d.From(0, p.People-1), line, d.written(p.Lines, line))))
}

// any returns a page.
func (d *dice) any() api.ProofPage {
	people := d.From(2, api.ProofPeople)
	p := page(people, d.lines(people))
	changes := d.From(0, 4)
	for range d.From(0, api.ProofLog) {
		entry := d.reading(p)
		if d.From(0, 7) < changes {
			entry = d.change(p)
		}
		p = with(p, entry)
	}
	return p
}

// pages calls f with the chapter's pages and with many others.
func pages(t *testing.T, many int, f func(t *testing.T, d *dice, p api.ProofPage)) {
	t.Helper()
	d := &dice{}
	for _, p := range append(others(), pageA()) {
		f(t, d, p)
	}
	for range many {
		if p := d.any(); !t.Failed() {
			f(t, d, p)
		}
	}
}

// badPages are pages that are not as defined, each in one way.
func badPages() []api.ProofPage {
	bad := trial.List(api.ProofPage{}, page(4, nil, pageA().Log...), page(4, nil), page(4, []api.ProofLine{}), page(4, slices.Repeat(set(0, 1, 1), 7)), page(4, make([]api.ProofLine, 1000)), with(pageA(), slices.Repeat(trial.List(fall(0)), 7)...), with(pageA(), make([]api.ProofEntry, 1000)...))
	far := func(low, high int) []int { return list(low-1, high+1, least, most) }
	each := func(numbers []int, change func(p api.ProofPage, n int)) {
		for _, n := range numbers {
			p := pageA()
			change(p, n)
			bad = append(bad, p)
		}
	}
	for _, people := range far(2, 6) {
		bad = append(bad, page(people, set(0, 5, 5)))
	}
	for line := range pageA().Lines {
		each(far(0, 3), func(p api.ProofPage, n int) { p.Lines[line].Setter = n })
		each(far(-999, 999), func(p api.ProofPage, n int) { p.Lines[line].Right = n })
		each(far(-999, 999), func(p api.ProofPage, n int) { p.Lines[line].Set = n })
	}
	for _, e := range badEntries() {
		each(list(0, 1, 2, 3), func(p api.ProofPage, at int) { p.Log[at] = e })
		bad = append(bad, with(pageA(), e))
	}
	return bad
}

// badEntries are entries that the page a cannot have, each for one reason.
func badEntries() []api.ProofEntry {
	bad := trial.List(read(1, 0, 0, 2), read(1, 1, 0, 2), read(0, 0, 0, 0), read(3, 3, 1, 1), read(3, 0, 0, 0), read(0, 1, 1, 0), read(0, 1, 2, 0), read(0, 1, 2, 1), read(-1, 4, 0, 0), read(0, 1, -1, 3), api.ProofEntry{})
	for _, n := range list(-1, 4, least, most) {
		bad = append(bad, read(n, 3, 0, 0), read(0, n, 0, 0), mend(n, 0, 5))
	}
	for _, n := range list(-1, 3, least, most) {
		bad = append(bad, read(0, 1, n, 2), read(0, 1, 0, n), read(0, 1, n, n), mend(0, n, 5), fall(n))
	}
	for _, n := range list(-1000, 1000, least, most) {
		bad = append(bad, mend(0, 0, n))
	}
	for _, kind := range list(-1, 0, 4, least, most) {
		for many := range 6 {
			bad = append(bad, api.ProofEntry{Kind: api.ProofKind(kind), Numbers: list(0, 1, 1, 1, 1)[:many]})
		}
	}
	// each kind with as many numbers as another one, or none
	for kind, right := range map[api.ProofKind]int{api.ProofRead: 4, api.ProofMend: 3, api.ProofFall: 1} {
		for many := range 8 {
			if many != right {
				bad = append(bad, api.ProofEntry{Kind: kind, Numbers: list(0, 1, 1, 1, 1, 1, 1)[:many]})
			}
		}
	}
	return bad
}

// call is a call of a function, which tells whether its other results are zero.
type call func() (bool, api.Errno)

// callsOf returns calls of all functions that have a page.
func callsOf(p api.ProofPage, line int) map[string]call {
	ofList := func(f func(api.ProofPage) ([]int, api.Errno)) call {
		return func() (bool, api.Errno) { y, e := f(p); return len(y) == 0, e }
	}
	return map[string]call{
		"Now": ofList(proof.Now), "Setters": ofList(proof.Setters), "Short": ofList(proof.Short), "Passes": ofList(proof.Passes), "Differs": ofList(proof.Differs), "Useless": ofList(proof.Useless),
		"Readers": func() (bool, api.Errno) { y, e := proof.Readers(p, line); return len(y) == 0, e },
		"Pass":    func() (bool, api.Errno) { y, e := proof.Pass(p); return !y, e },
		"Errors":  func() (bool, api.Errno) { y, e := proof.Errors(p); return len(y) == 0, e },
		"Missed":  func() (bool, api.Errno) { y, e := proof.Missed(p); return len(y) == 0, e },
		"Worst":   func() (bool, api.Errno) { x, y, e := proof.Worst(p); return x == 0 && y == 0, e },
		"Best":    func() (bool, api.Errno) { x, y, z, e := proof.Best(p); return x == 0 && y == 0 && z == 0, e },
		"Fewest":  func() (bool, api.Errno) { y, e := proof.Fewest(p); return len(y) == 0, e },
		"Print":   func() (bool, api.Errno) { y, e := proof.Print(p); return y == "", e },
	}
}

// refused fails if a call does not return ErrArg with zero values beside it.
func refused(t *testing.T, calls map[string]call, what ...any) {
	t.Helper()
	for name, call := range calls {
		if zero, e := call(); !zero || e != api.ErrArg {
			t.Error(name, fmt.Sprint(what...), zero, e)
		}
	}
}
