// Package texts has what the texts of all layers have in common: lines of
// words with a single blank between two, in the order of their kinds, decimal
// numbers, and a last line with a CHECK of the lines before it.
package texts

import (
	"strconv"
	"strings"

	"ephemerist/api"
)

// Line is a line of a text.
type Line interface {
	Text() string
	// Part returns which part of a text the line belongs to. The part 0 is
	// the first line alone, and no line comes before one of a lesser part.
	Part() int
}

const (
	endWord     = "end"
	checkDigits = 3
)

// noText is what a string that is no text gives up with.
type noText struct{}

// GiveUp leaves a Reading, or an Attempt: the string is no text.
func GiveUp() { panic(noText{}) }

// Write returns the text of some lines, with the line of their CHECK after
// them. The modulus is at most 1000.
func Write(lines []Line, modulus int) string {
	var written []string
	for _, l := range lines {
		written = append(written, l.Text())
	}
	written = append(written, endOf(written, modulus))
	return strings.Join(written, "\n") + "\n"
}

// Reading is how texts of a layer are read.
type Reading[T any] struct {
	// Most is how many bytes a text has at most.
	Most    int
	Modulus int
	// Line makes a line of its words, and Whole what is read of all lines;
	// both give up if there is no such text.
	Line  func(words []string) Line
	Whole func(lines []Line) T
	// Is tells whether what was read is as defined.
	Is func(T) bool
}

// Read returns what a text tells.
func (r Reading[T]) Read(text string) (T, api.Errno) {
	var zero T
	if len(text) > r.Most {
		return zero, api.ErrLong
	}
	read, is := r.parse(text)
	switch {
	case !is:
		return zero, api.ErrText
	case !r.Is(read):
		return zero, api.ErrArg
	}
	return read, api.OK
}

// parse returns what a text tells, or false if the string is no text.
func (r Reading[T]) parse(text string) (T, bool) {
	return Attempt(func() T {
		var lines []Line
		for _, words := range wordsOf(text, r.Modulus) {
			lines = append(lines, r.Line(words))
		}
		mustBeInOrder(lines)
		return r.Whole(lines)
	})
}

// Attempt returns what is read, or false if reading it gives up.
func Attempt[T any](read func() T) (thing T, is bool) {
	defer func() {
		if _, no := recover().(noText); no {
			is = false
		}
	}()
	return read(), true
}

// mustBeInOrder gives up if lines do not stand where their parts do.
func mustBeInOrder(lines []Line) {
	if len(lines) == 0 {
		GiveUp()
	}
	last := 0
	for i, l := range lines {
		part := l.Part()
		if part < last || (part == 0) != (i == 0) {
			GiveUp()
		}
		last = part
	}
}

// wordsOf returns the words of all lines but the last one.
func wordsOf(text string, modulus int) [][]string {
	body, ended := strings.CutSuffix(text, "\n")
	written := strings.Split(body, "\n")
	last := len(written) - 1
	if !ended || written[last] != endOf(written[:last], modulus) {
		GiveUp()
	}
	var lines [][]string
	for _, l := range written[:last] {
		lines = append(lines, strings.Split(l, " "))
	}
	return lines
}

// endOf returns the last line, with the CHECK of the lines before it.
func endOf(written []string, modulus int) string {
	total := 0
	for i, l := range written {
		for at := range len(l) {
			total += int(l[at]) * (at + 1) * (i + 1)
		}
	}
	digits := strconv.Itoa(total % modulus)
	return endWord + " " + strings.Repeat("0", checkDigits-len(digits)) + digits
}

// Numbers returns a line of a word and numbers.
func Numbers(word string, numbers ...int) string {
	for _, n := range numbers {
		word += " " + strconv.Itoa(n)
	}
	return word
}

// Integers returns the numbers of some words, which can have a minus sign; of
// words that are no numbers of at most so many digits it gives up.
func Integers(words []string, digits int) []int {
	return each(words, digits, integer)
}

// Naturals returns the numbers of some words, which have no sign; of words
// that are no numbers of at most so many digits it gives up.
func Naturals(words []string, digits int) []int {
	return each(words, digits, natural)
}

func each(words []string, digits int, number func(word string, digits int) int) []int {
	numbers := make([]int, len(words))
	for i, w := range words {
		numbers[i] = number(w, digits)
	}
	return numbers
}

func integer(word string, digits int) int {
	size, minus := strings.CutPrefix(word, "-")
	n := natural(size, digits)
	if !minus {
		return n
	}
	if n == 0 {
		GiveUp()
	}
	return -n
}

func natural(word string, digits int) int {
	if len(word) < 1 || len(word) > digits || len(word) > 1 && word[0] == '0' {
		GiveUp()
	}
	n := 0
	for _, d := range word {
		if d < '0' || d > '9' {
			GiveUp()
		}
		n = n*10 + int(d-'0')
	}
	return n
}
