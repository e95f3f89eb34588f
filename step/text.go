package step

import (
	"ephemerist/api"
	"ephemerist/texts"
)

// Print returns the text of a table.
func Print(t api.StepTable) (string, api.Errno) {
	if !isTable(t) {
		return "", api.ErrArg
	}
	lines := []texts.Line{tableLine{t.Off, t.Rule}}
	for _, v := range t.Values {
		lines = append(lines, valueLine(v))
	}
	return texts.Write(lines, checkModulus), api.OK
}

// Read returns the table of a text.
func Read(text string) (api.StepTable, api.Errno) {
	reading := texts.Reading[api.StepTable]{Most: api.StepText, Modulus: checkModulus, Line: lineOf, Whole: tableOf, Is: isTable}
	return reading.Read(text)
}

// The words with which lines begin, in the order of the table words and of the
// parts of a text.
const (
	tableWord = iota
	valueWord
)

var words = [...]string{"table", "value"}

const (
	numberDigits = 4
	checkModulus = 241
)

type tableLine struct {
	off  int
	rule api.RoundRule
}

// Text returns the line as it is written.
func (l tableLine) Text() string { return texts.Numbers(words[tableWord], l.off, int(l.rule)) }

// Part returns which part of the text the line belongs to.
func (tableLine) Part() int { return tableWord }

// valueLine is between which bounds a value lies.
type valueLine api.Span

// Text returns the line as it is written.
func (l valueLine) Text() string { return texts.Numbers(words[valueWord], l.Low, l.High) }

// Part returns which part of the text the line belongs to.
func (valueLine) Part() int { return valueWord }

// lineOf returns the line of some words.
func lineOf(parts []string) texts.Line {
	if len(parts) == 3 {
		switch parts[0] {
		case words[tableWord]:
			n := texts.Naturals(parts[1:], numberDigits)
			return tableLine{n[0], api.RoundRule(n[1])}
		case words[valueWord]:
			n := texts.Integers(parts[1:], numberDigits)
			return valueLine{n[0], n[1]}
		}
	}
	texts.GiveUp()
	return nil
}

// tableOf returns the table that lines tell, whether or not it is as defined.
func tableOf(lines []texts.Line) api.StepTable {
	var t api.StepTable
	for _, l := range lines {
		switch x := l.(type) {
		case tableLine:
			t.Off, t.Rule = x.off, x.rule
		case valueLine:
			t.Values = append(t.Values, api.Span(x))
		}
	}
	return t
}
