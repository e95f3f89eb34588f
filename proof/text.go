package proof

import (
	"slices"

	"ephemerist/api"
	"ephemerist/texts"
)

// Print returns the text of a page.
func Print(p api.ProofPage) (string, api.Errno) {
	if !isPage(p) {
		return "", api.ErrArg
	}
	written := []texts.Line{pageLine(p.People)}
	for _, l := range p.Lines {
		written = append(written, setLine(l))
	}
	for _, e := range p.Log {
		written = append(written, entryLine(e))
	}
	return texts.Write(written, checkModulus), api.OK
}

// Read returns the page of a text.
func Read(text string) (api.ProofPage, api.Errno) {
	reading := texts.Reading[api.ProofPage]{Most: api.ProofText, Modulus: checkModulus, Line: lineOf, Whole: pageOf, Is: isPage}
	return reading.Read(text)
}

// The words with which lines begin, in the order of the table forms; those of
// entries are in the order of their kinds.
const (
	pageWord = iota
	lineWord
	readWord
	mendWord
	fallWord
)

// The parts of a text. Entries of all kinds are one part, since their order is
// that of the Log.
const (
	pagePart = iota
	linePart
	entryPart
)

const (
	numberDigits = 3
	checkModulus = 269
)

// form is the word of a line, with how many numbers come after it: some without a
// sign, and then some that can have one.
type form struct {
	word     string
	naturals int
	integers int
}

var forms = [...]form{
	pageWord: {word: "page", naturals: 1},
	lineWord: {word: "line", naturals: 1, integers: 2},
	readWord: {word: "read", naturals: 4},
	mendWord: {word: "mend", naturals: 2, integers: 1},
	fallWord: {word: "fall", naturals: 1},
}

// pageLine is how many People there are.
type pageLine int

// Text returns the line as it is written.
func (l pageLine) Text() string { return texts.Numbers(forms[pageWord].word, int(l)) }

// Part returns which part of the text the line belongs to.
func (pageLine) Part() int { return pagePart }

type setLine api.ProofLine

// Text returns the line as it is written.
func (l setLine) Text() string {
	return texts.Numbers(forms[lineWord].word, l.Setter, l.Right, l.Set)
}

// Part returns which part of the text the line belongs to.
func (setLine) Part() int { return linePart }

type entryLine api.ProofEntry

// Text returns the line as it is written.
func (l entryLine) Text() string {
	return texts.Numbers(forms[readWord+l.Kind-api.ProofRead].word, l.Numbers...)
}

// Part returns which part of the text the line belongs to.
func (entryLine) Part() int { return entryPart }

// lineOf returns the line of some words.
func lineOf(written []string) texts.Line {
	for word, f := range forms {
		if f.word == written[0] && f.naturals+f.integers == len(written)-1 {
			return lineWith(word, f.numbers(written[1:]))
		}
	}
	texts.GiveUp()
	return nil
}

// numbers returns the numbers of some words, of which there are as many as the
// form has.
func (f form) numbers(written []string) []int {
	return slices.Concat(texts.Naturals(written[:f.naturals], numberDigits), texts.Integers(written[f.naturals:], numberDigits))
}

// lineWith returns the line of a word and its numbers.
func lineWith(word int, n []int) texts.Line {
	switch word {
	case pageWord:
		return pageLine(n[0])
	case lineWord:
		return setLine{Setter: n[0], Right: n[1], Set: n[2]}
	}
	return entryLine{Kind: api.ProofRead + api.ProofKind(word-readWord), Numbers: n}
}

// pageOf returns the page that lines tell, whether or not it is as defined.
func pageOf(written []texts.Line) api.ProofPage {
	var p api.ProofPage
	for _, l := range written {
		switch x := l.(type) {
		case pageLine:
			p.People = int(x)
		case setLine:
			p.Lines = append(p.Lines, api.ProofLine(x))
		case entryLine:
			p.Log = append(p.Log, api.ProofEntry(x))
		}
	}
	return p
}
