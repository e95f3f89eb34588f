package hands

import (
	"ephemerist/api"
	"ephemerist/texts"
)

// Print returns the text of a sheet.
func Print(s api.HandsSheet) (string, api.Errno) {
	if !isSheet(s) {
		return "", api.ErrArg
	}
	lines := []texts.Line{handsLine(s.Errors)}
	for row := range rowsOf(s) {
		var numbers rowLine
		for _, column := range s.Columns {
			numbers = append(numbers, column[row])
		}
		lines = append(lines, numbers)
	}
	return texts.Write(lines, checkModulus), api.OK
}

// Read returns the sheet of a text.
func Read(text string) (api.HandsSheet, api.Errno) {
	reading := texts.Reading[api.HandsSheet]{Most: api.HandsText, Modulus: checkModulus, Line: lineOf, Whole: sheetOf, Is: isSheet}
	return reading.Read(text)
}

// The words with which lines begin, in the order of the table words and of the
// parts of a text.
const (
	handsWord = iota
	rowWord
)

var words = [...]string{"hands", "row"}

const (
	numberDigits = 3
	checkModulus = 229
)

// handsLine is how many errors each hand has made at most.
type handsLine []int

// Text returns the line as it is written.
func (l handsLine) Text() string { return texts.Numbers(words[handsWord], l...) }

// Part returns which part of the text the line belongs to.
func (handsLine) Part() int { return handsWord }

// rowLine is the numbers of all hands in a row.
type rowLine []int

// Text returns the line as it is written.
func (l rowLine) Text() string { return texts.Numbers(words[rowWord], l...) }

// Part returns which part of the text the line belongs to.
func (rowLine) Part() int { return rowWord }

// lineOf returns the line of some words.
func lineOf(parts []string) texts.Line {
	switch parts[0] {
	case words[handsWord]:
		return handsLine(texts.Naturals(parts[1:], numberDigits))
	case words[rowWord]:
		return rowLine(texts.Integers(parts[1:], numberDigits))
	}
	texts.GiveUp()
	return nil
}

// sheetOf returns the sheet that lines tell, whether or not it is as defined.
func sheetOf(lines []texts.Line) api.HandsSheet {
	var s api.HandsSheet
	for _, l := range lines {
		switch x := l.(type) {
		case handsLine:
			s.Errors, s.Columns = x, make([][]int, len(x))
		case rowLine:
			if len(x) != len(s.Columns) {
				texts.GiveUp()
			}
			for hand, n := range x {
				s.Columns[hand] = append(s.Columns[hand], n)
			}
		}
	}
	if len(s.Columns) == 0 {
		texts.GiveUp()
	}
	return s
}
