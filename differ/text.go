package differ

import (
	"ephemerist/api"
	"ephemerist/texts"
)

// Print returns the text of a plan.
func Print(p api.DifferPlan) (string, api.Errno) {
	if !isPlan(p) {
		return "", api.ErrArg
	}
	lines := []texts.Line{planLine{p.Rows, p.Guard}}
	for _, s := range p.Starts {
		lines = append(lines, startLine{s})
	}
	return texts.Write(lines, checkModulus), api.OK
}

// Read returns the plan of a text.
func Read(text string) (api.DifferPlan, api.Errno) {
	reading := texts.Reading[api.DifferPlan]{Most: api.DifferText, Modulus: checkModulus, Line: lineOf, Whole: planOf, Is: isPlan}
	return reading.Read(text)
}

// The words with which lines begin, in the order of the table words and of the
// parts of a text.
const (
	planWord = iota
	startWord
)

var words = [...]string{"plan", "start"}

const (
	numberDigits = 5
	checkModulus = 227
)

type planLine struct {
	rows  int
	guard int
}

// Text returns the line as it is written.
func (l planLine) Text() string { return texts.Numbers(words[planWord], l.rows, l.guard) }

// Part returns which part of the text the line belongs to.
func (planLine) Part() int { return planWord }

type startLine struct{ api.Span }

// Text returns the line as it is written.
func (l startLine) Text() string { return texts.Numbers(words[startWord], l.Low, l.High) }

// Part returns which part of the text the line belongs to.
func (startLine) Part() int { return startWord }

// lineOf returns the line of some words.
func lineOf(parts []string) texts.Line {
	if len(parts) == 3 {
		switch parts[0] {
		case words[planWord]:
			n := texts.Naturals(parts[1:], numberDigits)
			return planLine{n[0], n[1]}
		case words[startWord]:
			n := texts.Integers(parts[1:], numberDigits)
			return startLine{api.Span{Low: n[0], High: n[1]}}
		}
	}
	texts.GiveUp()
	return nil
}

// planOf returns the plan that lines tell, whether or not it is as defined.
func planOf(lines []texts.Line) api.DifferPlan {
	var p api.DifferPlan
	for _, l := range lines {
		switch x := l.(type) {
		case planLine:
			p.Rows, p.Guard = x.rows, x.guard
		case startLine:
			p.Starts = append(p.Starts, x.Span)
		}
	}
	return p
}
