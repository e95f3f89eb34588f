package column

import (
	"ephemerist/api"
	"ephemerist/texts"
)

// Print returns the text of a sheet.
func Print(s api.ColumnSheet) (string, api.Errno) {
	if !isSheet(s) {
		return "", api.ErrArg
	}
	lines := []texts.Line{columnLine{s.Order, s.Smooth}}
	for _, value := range s.Values {
		lines = append(lines, rowLine(value))
	}
	return texts.Write(lines, checkModulus), api.OK
}

// Read returns the sheet of a text.
func Read(text string) (api.ColumnSheet, api.Errno) {
	reading := texts.Reading[api.ColumnSheet]{Most: api.ColumnText, Modulus: checkModulus, Line: lineOf, Whole: sheetOf, Is: isSheet}
	return reading.Read(text)
}

// The words with which lines begin, in the order of the table words and of the
// parts of a text.
const (
	columnWord = iota
	rowWord
)

var words = [...]string{"column", "row"}

const (
	numberDigits = 5
	checkModulus = 233
)

type columnLine struct {
	order  int
	smooth api.Span
}

// Text returns the line as it is written.
func (l columnLine) Text() string {
	return texts.Numbers(words[columnWord], l.order, l.smooth.Low, l.smooth.High)
}

// Part returns which part of the text the line belongs to.
func (columnLine) Part() int { return columnWord }

// rowLine is the value of a row.
type rowLine int

// Text returns the line as it is written.
func (l rowLine) Text() string { return texts.Numbers(words[rowWord], int(l)) }

// Part returns which part of the text the line belongs to.
func (rowLine) Part() int { return rowWord }

// lineOf returns the line of some words.
func lineOf(parts []string) texts.Line {
	switch {
	case len(parts) == 4 && parts[0] == words[columnWord]:
		order, ends := texts.Naturals(parts[1:2], numberDigits), texts.Integers(parts[2:], numberDigits)
		return columnLine{order[0], api.Span{Low: ends[0], High: ends[1]}}
	case len(parts) == 2 && parts[0] == words[rowWord]:
		return rowLine(texts.Integers(parts[1:], numberDigits)[0])
	}
	texts.GiveUp()
	return nil
}

// sheetOf returns the sheet that lines tell, whether or not it is as defined.
func sheetOf(lines []texts.Line) api.ColumnSheet {
	var s api.ColumnSheet
	for _, l := range lines {
		switch x := l.(type) {
		case columnLine:
			s.Order, s.Smooth = x.order, x.smooth
		case rowLine:
			s.Values = append(s.Values, int(x))
		}
	}
	return s
}
