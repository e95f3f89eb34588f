package proof

import (
	"ephemerist/api"
	"ephemerist/hands"
)

// Now returns the numbers of all lines.
func Now(p api.ProofPage) ([]int, api.Errno) {
	if !isPage(p) {
		return nil, api.ErrArg
	}
	return after(p).numbers, api.OK
}

// Setters returns who set each line last.
func Setters(p api.ProofPage) ([]int, api.Errno) {
	if !isPage(p) {
		return nil, api.ErrArg
	}
	return after(p).setters, api.OK
}

// Readers returns the readers of a line.
func Readers(p api.ProofPage, line int) ([]int, api.Errno) {
	if !isPage(p) || !isLine(p, line) {
		return nil, api.ErrArg
	}
	return after(p).readers(line), api.OK
}

// Short returns how many readers each line lacks.
func Short(p api.ProofPage) ([]int, api.Errno) {
	if !isPage(p) {
		return nil, api.ErrArg
	}
	var short []int
	s := after(p)
	for line := range p.Lines {
		short = append(short, max(0, enough-len(s.readers(line))))
	}
	return short, api.OK
}

// Passes returns all lines that pass.
func Passes(p api.ProofPage) ([]int, api.Errno) {
	if !isPage(p) {
		return nil, api.ErrArg
	}
	return after(p).passing(), api.OK
}

// Pass reports whether the page passes.
func Pass(p api.ProofPage) (bool, api.Errno) {
	if !isPage(p) {
		return false, api.ErrArg
	}
	return after(p).allPass(), api.OK
}

// Differs returns all lines that differ.
func Differs(p api.ProofPage) ([]int, api.Errno) {
	if !isPage(p) {
		return nil, api.ErrArg
	}
	var differing []int
	s := after(p)
	for line := range p.Lines {
		if s.differs(line) {
			differing = append(differing, line)
		}
	}
	return differing, api.OK
}

// Errors returns the errors of all lines.
func Errors(p api.ProofPage) ([]api.HandsError, api.Errno) {
	if !isPage(p) {
		return nil, api.ErrArg
	}
	var right []int
	for _, l := range p.Lines {
		right = append(right, l.Right)
	}
	return hands.Errors(right, after(p).numbers)
}

// enough is how many readers a line that passes has at least.
const enough = 2

// reader is one of the people who has read a line.
type reader struct{ line, person int }

// standing is a page with what stands after some entries.
type standing struct {
	api.ProofPage
	numbers []int
	setters []int
	// heard is who has read which line since it was changed for the last time,
	// its setter among them.
	heard map[reader]bool
}

// before returns what stands before all entries of a page.
func before(p api.ProofPage) *standing {
	s := &standing{ProofPage: p, heard: map[reader]bool{}}
	for _, l := range p.Lines {
		s.numbers = append(s.numbers, l.Set)
		s.setters = append(s.setters, l.Setter)
	}
	return s
}

// after returns what stands after all entries of a page, and after some pairs
// have then read all of it.
func after(p api.ProofPage, pairs ...api.ProofPair) *standing {
	s := before(p)
	for _, e := range p.Log {
		s.enter(e)
	}
	for _, pair := range pairs {
		whole := allLines(p)
		s.enter(api.ProofEntry{Kind: api.ProofRead, Numbers: []int{pair.One, pair.Other, whole.Low, whole.High}})
	}
	return s
}

// enter does what an entry does.
func (s *standing) enter(e api.ProofEntry) {
	does := [...]func(*standing, api.ProofEntry){
		api.ProofRead - 1: (*standing).read,
		api.ProofMend - 1: (*standing).mend,
		api.ProofFall - 1: (*standing).fall,
	}
	does[e.Kind-1](s, e)
}

func (s *standing) read(e api.ProofEntry) {
	for line := range readLines(e) {
		for _, person := range e.Numbers[:2] {
			s.heard[reader{line, person}] = true
		}
	}
}

func (s *standing) mend(e api.ProofEntry) {
	by, line, number := e.Numbers[0], e.Numbers[1], e.Numbers[2]
	s.setters[line] = by
	s.change(line, number)
}

func (s *standing) fall(e api.ProofEntry) {
	line := e.Numbers[0]
	// Go drops what is left over, also of a number that is less than 0.
	s.change(line, s.numbers[line]/10)
}

// change gives a line its number, which nobody has read yet.
func (s *standing) change(line, number int) {
	s.numbers[line] = number
	for person := range s.People {
		delete(s.heard, reader{line, person})
	}
}

// differs tells whether a line differs.
func (s *standing) differs(line int) bool { return s.numbers[line] != s.Lines[line].Right }

// readers returns the readers of a line, in increasing order.
func (s *standing) readers(line int) []int {
	var readers []int
	for person := range s.People {
		if s.heard[reader{line, person}] && person != s.setters[line] {
			readers = append(readers, person)
		}
	}
	return readers
}

func (s *standing) passes(line int) bool { return len(s.readers(line)) >= enough }

// passing returns all lines that pass.
func (s *standing) passing() []int {
	var passing []int
	for line := range s.Lines {
		if s.passes(line) {
			passing = append(passing, line)
		}
	}
	return passing
}

// tooFewReaders is what a page gives up with at a line that does not pass.
type tooFewReaders struct{}

// mustPass gives up if a line does not pass.
func (s *standing) mustPass() {
	for line := range s.Lines {
		if !s.passes(line) {
			panic(tooFewReaders{})
		}
	}
}

// allPass tells whether all lines pass.
func (s *standing) allPass() (all bool) {
	defer func() {
		if _, fails := recover().(tooFewReaders); fails {
			all = false
		}
	}()
	s.mustPass()
	return true
}
