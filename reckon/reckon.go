// Package reckon has what several layers reckon with.
package reckon

// Sum returns the sum of some numbers.
func Sum(numbers ...int) int {
	total := 0
	for _, n := range numbers {
		total += n
	}
	return total
}

// Quotient returns a quotient, rounded down (R7), by a number that is more than
// 0.
func Quotient(n, by int) int {
	quotient := n / by
	// Go rounds quotients towards 0.
	if n%by < 0 {
		quotient--
	}
	return quotient
}

// Within tells whether a number is between two bounds, both included.
func Within(n, low, high int) bool { return low <= n && n <= high }

// Best returns the first thing than which none is better, or a zero value if
// there is none.
func Best[T any](things []T, better func(a, b T) bool) T {
	var first T
	for i, x := range things {
		if i == 0 || better(x, first) {
			first = x
		}
	}
	return first
}
