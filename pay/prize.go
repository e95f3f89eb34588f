package pay

import (
	"ephemerist/api"
	"ephemerist/reckon"
)

// Share returns the shares of a prize.
func Share(b api.PayBook, prize int) ([]int, api.Errno) {
	if !isBook(b) || !isSum(prize) {
		return nil, api.ErrArg
	}
	if reckon.Sum(sheetsOf(b)...) == 0 {
		return nil, api.ErrNone
	}
	return shares(b, prize), api.OK
}

// Rate returns the least rate for a Sheet with which a hand surely is paid a sum
// at least.
func Rate(b api.PayBook, hand, sum int) (int, api.Errno) {
	if !isBook(b) || !isHand(b, hand) || !isSum(sum) {
		return 0, api.ErrArg
	}
	with := b
	for rate := range api.PayRate + 1 {
		with.Sheet = rate
		if total(with, hand).Low >= sum {
			return rate, api.OK
		}
	}
	return 0, api.ErrNone
}

// sheetsOf returns how many Sheets each hand has in all lines.
func sheetsOf(b api.PayBook) []int {
	sheets := make([]int, b.Hands)
	for _, l := range b.Lines {
		sheets[l.Hand] += l.Sheets
	}
	return sheets
}

// shares returns the shares of a prize, if there are Sheets.
func shares(b api.PayBook, prize int) []int {
	var given, rests, hands []int
	sheets := sheetsOf(b)
	all := reckon.Sum(sheets...)
	for hand := range b.Hands {
		part := prize * sheets[hand]
		given = append(given, part/all)
		rests = append(rests, part%all)
		hands = append(hands, hand)
	}
	// The farthings that are left are fewer than the hands with a rest.
	for range prize - reckon.Sum(given...) {
		next := reckon.Best(hands, func(a, b int) bool { return rests[a] > rests[b] })
		given[next]++
		rests[next] = 0
	}
	return given
}
