package pay

import (
	"iter"

	"ephemerist/api"
)

// Agrees returns the first truth with which a book agrees.
func Agrees(b api.PayBook) ([]int, api.Errno) {
	if !isBook(b) {
		return nil, api.ErrArg
	}
	for errors := range agreeing(b) {
		return errors, api.OK
	}
	return nil, api.ErrNone
}

// First returns the first line so that a book with this line and those before it
// alone agrees with no truth.
func First(b api.PayBook) (int, api.Errno) {
	if !isBook(b) {
		return 0, api.ErrArg
	}
	begun := b
search:
	for line := range b.Lines {
		begun.Lines = b.Lines[:line+1]
		for range agreeing(begun) {
			continue search
		}
		return line, api.OK
	}
	return 0, api.ErrNone
}

// Errors returns the least and the greatest number of errors of a line in a truth
// with which a book agrees.
func Errors(b api.PayBook, line int) (api.Span, api.Errno) {
	if !isBook(b) || !isLine(b, line) {
		return api.Span{}, api.ErrArg
	}
	var can []int
	for errors := range agreeing(b) {
		can = append(can, errors[line])
	}
	if len(can) == 0 {
		return api.Span{}, api.ErrNone
	}
	return spanOf(can), api.OK
}

// agreeing goes through the truths with which a book agrees, in lexicographic
// order.
func agreeing(b api.PayBook) iter.Seq[[]int] {
	return func(yield func([]int) bool) {
		for t := range truths(b) {
			if t.agrees() && !yield(t.errors) {
				return
			}
		}
	}
}

// paidOtherwise is what a book with a truth gives up with at a line that does not
// agree.
type paidOtherwise struct{}

// mustAgree gives up if a line does not agree.
func (b bookWithTruth) mustAgree() {
	paid, _ := b.settle()
	for line, n := range paid {
		if n != farthingsOf(b.Lines[line].Paid) {
			panic(paidOtherwise{})
		}
	}
}

// agrees tells whether all lines agree.
func (b bookWithTruth) agrees() (all bool) {
	defer func() {
		if _, otherwise := recover().(paidOtherwise); otherwise {
			all = false
		}
	}()
	b.mustAgree()
	return true
}
