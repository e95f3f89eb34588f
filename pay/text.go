package pay

import (
	"ephemerist/api"
	"ephemerist/texts"
)

// Print returns the text of a book.
func Print(b api.PayBook) (string, api.Errno) {
	if !isBook(b) {
		return "", api.ErrArg
	}
	lines := []texts.Line{ratesLine(b)}
	for _, l := range b.Lines {
		lines = append(lines, paidLine(l))
	}
	return texts.Write(lines, checkModulus), api.OK
}

// Read returns the book of a text.
func Read(text string) (api.PayBook, api.Errno) {
	reading := texts.Reading[api.PayBook]{Most: api.PayText, Modulus: checkModulus, Line: lineOf, Whole: bookOf, Is: isBook}
	return reading.Read(text)
}

// The words with which lines begin, in the order of the table words and of the
// parts of a text.
const (
	payWord = iota
	lineWord
)

var words = [...]string{"pay", "line"}

const (
	numberDigits = 3
	ratesNumbers = 6
	doneNumbers  = 6
	paidNumbers  = doneNumbers + parts
	checkModulus = 263
)

// ratesLine is a book without its Lines.
type ratesLine api.PayBook

// Text returns the line as it is written.
func (l ratesLine) Text() string {
	return texts.Numbers(words[payWord], l.Hands, l.Unit, l.Sheet, l.Error, l.Morning, l.Post)
}

// Part returns which part of the text the line belongs to.
func (ratesLine) Part() int { return payWord }

type paidLine api.PayLine

// Text returns the line as it is written.
func (l paidLine) Text() string {
	paid := partsOf(l.Paid)
	done := texts.Numbers(words[lineWord], l.Hand, l.Sheets, l.Errors.Low, l.Errors.High, l.Mornings, l.Posts)
	return texts.Numbers(done, paid[:]...)
}

// Part returns which part of the text the line belongs to.
func (paidLine) Part() int { return lineWord }

// lineOf returns the line of some words.
func lineOf(written []string) texts.Line {
	word, n := written[0], texts.Naturals(written[1:], numberDigits)
	switch {
	case word == words[payWord] && len(n) == ratesNumbers:
		return ratesLine{Hands: n[0], Unit: n[1], Sheet: n[2], Error: n[3], Morning: n[4], Post: n[5]}
	case word == words[lineWord] && len(n) == paidNumbers:
		return paidLine{Hand: n[0], Sheets: n[1], Errors: api.Span{Low: n[2], High: n[3]}, Mornings: n[4], Posts: n[5], Paid: moneyOf([parts]int(n[doneNumbers:]))}
	}
	texts.GiveUp()
	return nil
}

// bookOf returns the book that lines tell, whether or not it is as defined.
func bookOf(lines []texts.Line) api.PayBook {
	var b api.PayBook
	for _, l := range lines {
		switch x := l.(type) {
		case ratesLine:
			b = api.PayBook(x)
		case paidLine:
			b.Lines = append(b.Lines, api.PayLine(x))
		}
	}
	return b
}
