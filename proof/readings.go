package proof

import (
	"slices"

	"ephemerist/api"
	"ephemerist/reckon"
)

// Missed returns all lines that readings miss.
func Missed(p api.ProofPage) ([]api.ProofMiss, api.Errno) {
	if !isPage(p) {
		return nil, api.ErrArg
	}
	var all []api.ProofMiss
	for at, lines := range missed(p) {
		for _, line := range lines {
			all = append(all, api.ProofMiss{Entry: at, Line: line})
		}
	}
	return all, api.OK
}

// Worst returns who misses most lines, and how many.
func Worst(p api.ProofPage) (int, int, api.Errno) {
	if !isPage(p) {
		return 0, 0, api.ErrArg
	}
	worst := reckon.Best(misses(p), func(a, b missing) bool { return a.lines > b.lines })
	if worst.lines == 0 {
		return 0, 0, api.ErrNone
	}
	return worst.person, worst.lines, api.OK
}

// Useless returns all readings that count for nothing.
func Useless(p api.ProofPage) ([]int, api.Errno) {
	if !isPage(p) {
		return nil, api.ErrArg
	}
	var useless []int
search:
	for at, e := range p.Log {
		if e.Kind != api.ProofRead {
			continue
		}
		for line := range readLines(e) {
			if !isChanged(p.Log[at+1:], line) {
				continue search
			}
		}
		useless = append(useless, at)
	}
	return useless, api.OK
}

// isChanged tells whether some entry changes a line.
func isChanged(entries []api.ProofEntry, line int) bool {
	return slices.ContainsFunc(entries, func(e api.ProofEntry) bool { return changes(e, line) })
}

// missed returns the lines that each entry misses.
func missed(p api.ProofPage) [][]int {
	all := make([][]int, len(p.Log))
	s := before(p)
	for at, e := range p.Log {
		for line := range readLines(e) {
			if s.differs(line) {
				all[at] = append(all[at], line)
			}
		}
		s.enter(e)
	}
	return all
}

// missing is one of the people, with how many lines all readings of theirs miss.
type missing struct{ person, lines int }

// misses returns how many lines the readings of each of the people miss.
func misses(p api.ProofPage) []missing {
	var all []missing
	lines := missed(p)
	for person := range p.People {
		var many []int
		for at, e := range p.Log {
			if isReader(e, person) {
				many = append(many, len(lines[at]))
			}
		}
		all = append(all, missing{person, reckon.Sum(many...)})
	}
	return all
}
