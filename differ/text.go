package differ

import (
	"strconv"
	"strings"

	"ephemerist/api"
)

// Print returns the text of a plan.
func Print(p api.DifferPlan) (string, api.Errno) {
	if !isPlan(p) {
		return "", api.ErrArg
	}
	lines := []line{planLine{p.Rows, p.Guard}}
	for _, s := range p.Starts {
		lines = append(lines, startLine{s})
	}
	lines = append(lines, endLine{checkOf(lines)})
	text := ""
	for _, l := range lines {
		text += l.text() + "\n"
	}
	return text, api.OK
}

// Read returns the plan of a text.
func Read(text string) (p api.DifferPlan, e api.Errno) {
	if len(text) > api.DifferText {
		return p, api.ErrLong
	}
	defer func() {
		if _, ok := recover().(noText); ok {
			p, e = api.DifferPlan{}, api.ErrText
		}
	}()
	read := planOf(linesOf(text))
	if !isPlan(read) {
		return p, api.ErrArg
	}
	return read, api.OK
}

// noText is what a string that is no text gives up with.
type noText struct{}

// The words with which lines begin, in the order of the table words.
const (
	planWord = iota
	startWord
	endWord
)

var words = [...]string{"plan", "start", "end"}

const (
	numberDigits = 5
	checkDigits  = 3
	checkModulus = 227
)

// line is a line of a text.
type line interface {
	text() string
}

type planLine struct {
	rows  int
	guard int
}

func (l planLine) text() string {
	return words[planWord] + " " + strconv.Itoa(l.rows) + " " + strconv.Itoa(l.guard)
}

type startLine struct{ api.Span }

func (l startLine) text() string {
	return words[startWord] + " " + strconv.Itoa(l.Low) + " " + strconv.Itoa(l.High)
}

type endLine struct{ check int }

func (l endLine) text() string {
	digits := strconv.Itoa(l.check)
	return words[endWord] + " " + strings.Repeat("0", checkDigits-len(digits)) + digits
}

// checkOf returns the CHECK of the lines before it.
func checkOf(lines []line) int {
	total := 0
	for i, l := range lines {
		text := l.text()
		for at := range len(text) {
			total += int(text[at]) * (at + 1) * (i + 1)
		}
	}
	return total % checkModulus
}

// planOf returns the plan that lines tell, whether or not it is as defined.
func planOf(lines []line) api.DifferPlan {
	var p api.DifferPlan
	last := len(lines) - 1
	for i, l := range lines {
		inPlace := false
		switch x := l.(type) {
		case planLine:
			inPlace = i == 0 && i < last
			p.Rows, p.Guard = x.rows, x.guard
		case startLine:
			inPlace = 0 < i && i < last
			p.Starts = append(p.Starts, x.Span)
		case endLine:
			inPlace = 0 < i && i == last && x.check == checkOf(lines[:i])
		}
		if !inPlace {
			panic(noText{})
		}
	}
	return p
}

func linesOf(text string) []line {
	body, ended := strings.CutSuffix(text, "\n")
	if !ended {
		panic(noText{})
	}
	var lines []line
	for _, s := range strings.Split(body, "\n") {
		lines = append(lines, lineOf(s))
	}
	return lines
}

func lineOf(s string) line {
	parts := strings.Split(s, " ")
	for word, name := range words {
		if parts[0] != name {
			continue
		}
		switch {
		case word == planWord && len(parts) == 3:
			return planLine{natural(parts[1]), natural(parts[2])}
		case word == startWord && len(parts) == 3:
			return startLine{api.Span{Low: integer(parts[1]), High: integer(parts[2])}}
		case word == endWord && len(parts) == 2 && len(parts[1]) == checkDigits:
			return endLine{decimal(parts[1])}
		}
	}
	panic(noText{})
}

// integer returns a number that can have a minus sign.
func integer(s string) int {
	digits, minus := strings.CutPrefix(s, "-")
	n := natural(digits)
	if !minus {
		return n
	}
	if n == 0 {
		panic(noText{})
	}
	return -n
}

// natural returns a number without a sign.
func natural(digits string) int {
	if len(digits) < 1 || len(digits) > numberDigits || len(digits) > 1 && digits[0] == '0' {
		panic(noText{})
	}
	return decimal(digits)
}

func decimal(digits string) int {
	n := 0
	for _, d := range digits {
		if d < '0' || d > '9' {
			panic(noText{})
		}
		n = n*10 + int(d-'0')
	}
	return n
}
