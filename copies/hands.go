package copies

import (
	"slices"

	"ephemerist/api"
	"ephemerist/reckon"
)

// Source returns all copies in which a single error can have entered.
func Source(t api.CopiesTree, place, right int) ([]int, api.Errno) {
	if !isTree(t) || !isPlace(t, place) || isNoFigure(right) {
		return nil, api.ErrArg
	}
	var sources []int
	for at := 1; at < len(t.Copies); at++ {
		if isSource(t, at, place, right) {
			sources = append(sources, at)
		}
	}
	if len(sources) == 0 {
		return nil, api.ErrNone
	}
	return sources, api.OK
}

// Apart returns the longest list of hands that are apart.
func Apart(t api.CopiesTree, hands []int) ([]int, api.Errno) {
	if !isTree(t) || !areHands(t, hands) {
		return nil, api.ErrArg
	}
	var apart []int
	// Hands that are not apart come from one copy that was made from the copy
	// 0. So each such copy has one place in the list, and its first hand is the
	// one to take.
search:
	for _, hand := range hands {
		for _, taken := range apart {
			if shared(t, taken, hand) != 0 {
				continue search
			}
		}
		apart = append(apart, hand)
	}
	return apart, api.OK
}

// Again returns the copies that must be made again.
func Again(t api.CopiesTree, story [][]int, hands []int) ([]int, api.Errno) {
	if !isTree(t) || !isStory(t, story) || !areHands(t, hands) {
		return nil, api.ErrArg
	}
	var again []int
	for _, hand := range hands {
		for at := range path(t, hand) {
			if slices.Equal(story[at], story[0]) {
				break
			}
			again = append(again, at)
		}
	}
	slices.Sort(again)
	return slices.Compact(again), api.OK
}

// isSource tells whether an error in a copy alone explains what was read at a
// place, if the copy 0 has a figure there.
func isSource(t api.CopiesTree, at, place, right int) bool {
	wrong := unread
	for other, c := range t.Copies {
		seen := c.Seen[place]
		switch {
		case seen == unread:
			continue
		case comesFrom(t, other, at) == (seen == right):
			return false
		case seen == right:
			continue
		case wrong != unread && seen != wrong:
			return false
		}
		wrong = seen
	}
	return true
}

// areHands tells whether a list is one of hands of a tree.
func areHands(t api.CopiesTree, hands []int) bool {
	last := 0
	for _, hand := range hands {
		if !reckon.Within(hand, last+1, len(t.Copies)-1) {
			return false
		}
		last = hand
	}
	return true
}
