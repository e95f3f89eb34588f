// Package reckon has what several layers reckon with.
package reckon

import (
	"iter"

	"ephemerist/api"
)

// Sum returns the sum of some numbers.
func Sum(numbers ...int) int {
	total := 0
	for _, n := range numbers {
		total += n
	}
	return total
}

// Quotient returns a quotient, rounded down (R7), by a number that is more than
// 0.
func Quotient(n, by int) int {
	quotient := n / by
	// Go rounds quotients towards 0.
	if n%by < 0 {
		quotient--
	}
	return quotient
}

// Within tells whether a number is between two bounds, both included.
func Within(n, low, high int) bool { return low <= n && n <= high }

// Best returns the first thing than which none is better, or a zero value if
// there is none.
func Best[T any](things []T, better func(a, b T) bool) T {
	var first T
	for i, x := range things {
		if i == 0 || better(x, first) {
			first = x
		}
	}
	return first
}

// IsSpan tells whether the ends of a span are in order, at most so far from 0,
// and at most so wide apart.
func IsSpan(s api.Span, most, wide int) bool {
	// Ends that are far out of range are sent away before the difference is
	// taken, which could go round.
	return Within(s.Low, -most, most) && Within(s.High, -most, most) && Within(s.High-s.Low, 0, wide)
}

// AreWithin tells whether there is a number for each span, and within it.
func AreWithin(numbers []int, spans []api.Span) bool {
	if len(numbers) != len(spans) {
		return false
	}
	for i, s := range spans {
		if !Within(numbers[i], s.Low, s.High) {
			return false
		}
	}
	return true
}

// Numbers goes through the numbers of a span, in increasing order.
func Numbers(s api.Span) iter.Seq[int] {
	return func(yield func(int) bool) {
		for n := s.Low; n <= s.High && yield(n); n++ {
		}
	}
}

// Ends returns the least ends of some spans, and the greatest ones.
func Ends(spans []api.Span) [2][]int {
	ends := [2]func(bound) int{bound.least, bound.greatest}
	var all [2][]int
	for i, end := range ends {
		for _, s := range spans {
			all[i] = append(all[i], end(bound(s)))
		}
	}
	return all
}

// bound is a span of which the ends are asked for.
type bound api.Span

func (b bound) least() int { return b.Low }

func (b bound) greatest() int { return b.High }
