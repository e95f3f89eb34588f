// Package trial has what the tests of all packages have in common. The program
// itself does not call it.
package trial

import (
	"slices"
	"strconv"

	"ephemerist/api"
)

// Dice gives the same numbers in each run.
type Dice struct{ State uint64 }

// From returns a number between two bounds, both included.
func (d *Dice) From(low, high int) int {
	d.State = d.State*6364136223846793005 + 1442695040888963407
	return low + int(d.State>>33)%(high-low+1)
}

// Of returns one of some things.
func Of[T any](d *Dice, things []T) T { return things[d.From(0, len(things)-1)] }

// List returns a list of its arguments.
func List[T any](things ...T) []T { return things }

// Spans returns spans with some ends, two for each one.
func Spans(ends ...int) []api.Span {
	var all []api.Span
	for both := range slices.Chunk(ends, 2) {
		all = append(all, api.Span{Low: both[0], High: both[1]})
	}
	return all
}

// Error returns the error of a call with one other result.
func Error[T any](_ T, e api.Errno) api.Errno { return e }

// WithRoom returns a list with room behind it, where something could be written.
func WithRoom(n ...int) []int { return append(n, 5)[:len(n)] }

// IsUntouched tells whether a list with room is as it was.
func IsUntouched(now []int, was ...int) bool { return slices.Equal(now[:len(now)+1], append(was, 5)) }

// Share tells whether some lists share memory, so that one is not as it was when
// another one is changed, or something is written behind it.
func Share[T comparable](lists [][]T, change func(*T)) bool {
	for i := range lists {
		var before [][]T
		for _, l := range lists {
			before = append(before, slices.Clone(l))
		}
		for k := range lists[i] {
			change(&lists[i][k])
		}
		var more T
		change(&more)
		_ = append(lists[i], more)
		for k := range lists {
			if k != i && !slices.Equal(lists[k], before[k]) {
				return true
			}
		}
	}
	return false
}

// Checked returns the text of some lines with the line end that belongs to them.
func Checked(modulus int, lines ...string) string {
	sum, text := 0, ""
	for i, l := range lines {
		text += l + "\n"
		for k, b := range []byte(l) {
			sum += int(b) * (k + 1) * (i + 1)
		}
	}
	return text + "end " + strconv.Itoa(1000 + sum%modulus)[1:] + "\n"
}

// OtherDigits returns all strings in which one digit of a text is another one.
func OtherDigits(text string) []string {
	var changed []string
	for i := range len(text) {
		for digit := byte('0'); digit <= '9'; digit++ {
			if text[i] >= '0' && text[i] <= '9' && text[i] != digit {
				changed = append(changed, text[:i]+string(digit)+text[i+1:])
			}
		}
	}
	return changed
}

// OtherBytes returns all strings in which one byte of a text is another one, is
// missing, or has one more before it, and all beginnings of the text.
func OtherBytes(text string) []string {
	var changed []string
	for i := range len(text) {
		changed = append(changed, text[:i], text[:i]+text[i+1:])
		for b := range 256 {
			one := string([]byte{byte(b)})
			changed = append(changed, text[:i]+one+text[i:])
			if text[i] != one[0] {
				changed = append(changed, text[:i]+one+text[i+1:])
			}
		}
	}
	return changed
}
