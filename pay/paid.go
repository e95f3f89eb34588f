package pay

import (
	"iter"
	"slices"

	"ephemerist/api"
	"ephemerist/reckon"
)

// Owed returns the least and the greatest sum that is owed for a line.
func Owed(b api.PayBook, line int) (api.Span, api.Errno) {
	if !isBook(b) || !isLine(b, line) {
		return api.Span{}, api.ErrArg
	}
	return between(b, func(t bookWithTruth) int { return t.owed(line) }), api.OK
}

// Pays returns what is paid in each line in a truth.
func Pays(b api.PayBook, errors []int) ([]int, api.Errno) {
	if !isBook(b) || !isTruth(b, errors) {
		return nil, api.ErrArg
	}
	paid, _ := bookWithTruth{b, errors}.settle()
	return paid, api.OK
}

// Rest returns the rest of a hand after the last line in a truth.
func Rest(b api.PayBook, errors []int, hand int) (int, api.Errno) {
	if !isBook(b) || !isTruth(b, errors) || !isHand(b, hand) {
		return 0, api.ErrArg
	}
	_, rests := bookWithTruth{b, errors}.settle()
	return rests[hand], api.OK
}

// Bounds returns the least and the greatest sum that is paid in each line.
func Bounds(b api.PayBook) ([]api.Span, api.Errno) {
	if !isBook(b) {
		return nil, api.ErrArg
	}
	// More errors in one line can leave a rest with which more is paid in
	// another one, so that the ends of the errors tell too little.
	sums := make([][]int, len(b.Lines))
	for t := range truths(b) {
		paid, _ := t.settle()
		for line, n := range paid {
			sums[line] = append(sums[line], n)
		}
	}
	var bounds []api.Span
	for _, all := range sums {
		bounds = append(bounds, spanOf(all))
	}
	return bounds, api.OK
}

// Total returns the least and the greatest sum that is paid to a hand in all of
// its lines together.
func Total(b api.PayBook, hand int) (api.Span, api.Errno) {
	if !isBook(b) || !isHand(b, hand) {
		return api.Span{}, api.ErrArg
	}
	return total(b, hand), api.OK
}

// total returns the least and the greatest sum that is paid to a hand. It is all
// that is owed to the hand, rounded down, and so never more with more errors.
func total(b api.PayBook, hand int) api.Span {
	return between(b, func(t bookWithTruth) int { return t.paidTo(hand) })
}

// between returns the least and the greatest of what a book tells in its truths,
// if it is never more with more errors.
func between(b api.PayBook, told func(bookWithTruth) int) api.Span {
	ends := reckon.Ends(errorsOf(b))
	return api.Span{Low: told(bookWithTruth{b, ends[1]}), High: told(bookWithTruth{b, ends[0]})}
}

// spanOf returns the least span that has some numbers.
func spanOf(numbers []int) api.Span {
	return api.Span{Low: slices.Min(numbers), High: slices.Max(numbers)}
}

// bookWithTruth is a book with a truth: the errors of each line.
type bookWithTruth struct {
	api.PayBook
	errors []int
}

// truths goes through the truths of a book, in lexicographic order.
func truths(b api.PayBook) iter.Seq[bookWithTruth] {
	return func(yield func(bookWithTruth) bool) {
		errors := make([]int, len(b.Lines))
		var from func(line int) bool
		from = func(line int) bool {
			if line == len(b.Lines) {
				return yield(bookWithTruth{b, slices.Clone(errors)})
			}
			for n := range reckon.Numbers(b.Lines[line].Errors) {
				errors[line] = n
				if !from(line + 1) {
					return false
				}
			}
			return true
		}
		from(0)
	}
}

// settle returns what is paid in each line, and the rest of each hand after the
// last line.
func (b bookWithTruth) settle() ([]int, map[int]int) {
	var paid []int
	rests := map[int]int{}
	for line, l := range b.Lines {
		due := rests[l.Hand] + b.owed(line)
		rests[l.Hand] = due % b.Unit
		paid = append(paid, due-rests[l.Hand])
	}
	return paid, rests
}

// paidTo returns what is paid to a hand in all of its lines.
func (b bookWithTruth) paidTo(hand int) int {
	total := 0
	paid, _ := b.settle()
	for line, n := range paid {
		if b.Lines[line].Hand == hand {
			total += n
		}
	}
	return total
}

// owed returns what is owed for a line.
func (b bookWithTruth) owed(line int) int {
	var sums []int
	for _, sum := range [...]func(line int) int{b.forSheets, b.forMornings, b.forPost} {
		sums = append(sums, sum(line))
	}
	return reckon.Sum(sums...)
}

func (b bookWithTruth) forSheets(line int) int {
	return max(0, b.Sheet*b.Lines[line].Sheets-b.Error*b.errors[line])
}

func (b bookWithTruth) forMornings(line int) int { return b.Morning * b.Lines[line].Mornings }

func (b bookWithTruth) forPost(line int) int { return b.Post * b.Lines[line].Posts }
