package give

import (
	"ephemerist/api"
	"ephemerist/texts"
)

// Print returns the text of a book.
func Print(b api.GiveBook) (string, api.Errno) {
	if !isBook(b) {
		return "", api.ErrArg
	}
	lines := []texts.Line{giveLine{}}
	for _, c := range b.Computers {
		lines = append(lines, computerLine(c))
	}
	for _, due := range b.Dues {
		lines = append(lines, tableLine(due))
	}
	for _, table := range b.Sheets {
		lines = append(lines, sheetLine(table))
	}
	return texts.Write(lines, checkModulus), api.OK
}

// Read returns the book of a text.
func Read(text string) (api.GiveBook, api.Errno) {
	reading := texts.Reading[api.GiveBook]{Most: api.GiveText, Modulus: checkModulus, Line: lineOf, Whole: bookOf, Is: isBook}
	return reading.Read(text)
}

// The words with which lines begin, in the order of the table words and of the
// parts of a text.
const (
	giveWord = iota
	computerWord
	tableWord
	sheetWord
)

var words = [...]string{"give", "computer", "table", "sheet"}

const (
	numberDigits    = 2
	computerNumbers = 7
	checkModulus    = 251
)

// giveLine is the first line, which has no numbers.
type giveLine struct{}

// Text returns the line as it is written.
func (giveLine) Text() string { return texts.Numbers(words[giveWord]) }

// Part returns which part of the text the line belongs to.
func (giveLine) Part() int { return giveWord }

type computerLine api.GiveComputer

// Text returns the line as it is written.
func (l computerLine) Text() string {
	return texts.Numbers(words[computerWord], l.Room, l.Post.Low, l.Post.High, l.Sheet.Low, l.Sheet.High, l.Look.Low, l.Look.High)
}

// Part returns which part of the text the line belongs to.
func (computerLine) Part() int { return computerWord }

// tableLine is the day on which a table is due.
type tableLine int

// Text returns the line as it is written.
func (l tableLine) Text() string { return texts.Numbers(words[tableWord], int(l)) }

// Part returns which part of the text the line belongs to.
func (tableLine) Part() int { return tableWord }

// sheetLine is the table of a sheet.
type sheetLine int

// Text returns the line as it is written.
func (l sheetLine) Text() string { return texts.Numbers(words[sheetWord], int(l)) }

// Part returns which part of the text the line belongs to.
func (sheetLine) Part() int { return sheetWord }

// lineOf returns the line of some words.
func lineOf(parts []string) texts.Line {
	word, n := parts[0], texts.Naturals(parts[1:], numberDigits)
	switch {
	case word == words[giveWord] && len(n) == 0:
		return giveLine{}
	case word == words[computerWord] && len(n) == computerNumbers:
		span := func(at int) api.Span { return api.Span{Low: n[at], High: n[at+1]} }
		return computerLine{Room: n[0], Post: span(1), Sheet: span(3), Look: span(5)}
	case word == words[tableWord] && len(n) == 1:
		return tableLine(n[0])
	case word == words[sheetWord] && len(n) == 1:
		return sheetLine(n[0])
	}
	texts.GiveUp()
	return nil
}

// bookOf returns the book that lines tell, whether or not it is as defined.
func bookOf(lines []texts.Line) api.GiveBook {
	var b api.GiveBook
	for _, l := range lines {
		switch x := l.(type) {
		case computerLine:
			b.Computers = append(b.Computers, api.GiveComputer(x))
		case tableLine:
			b.Dues = append(b.Dues, int(x))
		case sheetLine:
			b.Sheets = append(b.Sheets, int(x))
		}
	}
	return b
}
