package round

import (
	"ephemerist/api"
	"ephemerist/texts"
)

// Print returns the text of a sheet.
func Print(s api.RoundSheet) (string, api.Errno) {
	if !isSheet(s) {
		return "", api.ErrArg
	}
	lines := []texts.Line{roundLine{s.Unit, s.Rule}}
	for _, err := range s.Errs {
		lines = append(lines, guardLine(err))
	}
	for _, number := range s.Rows {
		lines = append(lines, rowLine(number))
	}
	return texts.Write(lines, checkModulus), api.OK
}

// Read returns the sheet of a text.
func Read(text string) (api.RoundSheet, api.Errno) {
	reading := texts.Reading[api.RoundSheet]{Most: api.RoundText, Modulus: checkModulus, Line: lineOf, Whole: sheetOf, Is: isSheet}
	return reading.Read(text)
}

// The words with which lines begin, in the order of the table words and of the
// parts of a text.
const (
	roundWord = iota
	guardWord
	rowWord
)

var words = [...]string{"round", "guard", "row"}

// The words of rules, in the order of the rules.
const (
	downWord = iota
	upWord
	nearWord
	evenWord
)

var ruleWords = [...]string{downWord: "down", upWord: "up", nearWord: "near", evenWord: "even"}

const (
	numberDigits = 6
	checkModulus = 239
)

type roundLine struct {
	unit int
	rule api.RoundRule
}

// Text returns the line as it is written.
func (l roundLine) Text() string {
	return texts.Numbers(words[roundWord], l.unit) + " " + ruleWords[l.rule-api.RoundDown]
}

// Part returns which part of the text the line belongs to.
func (roundLine) Part() int { return roundWord }

// guardLine is the Err of a number of guard figures.
type guardLine int

// Text returns the line as it is written.
func (l guardLine) Text() string { return texts.Numbers(words[guardWord], int(l)) }

// Part returns which part of the text the line belongs to.
func (guardLine) Part() int { return guardWord }

// rowLine is the number of a row.
type rowLine int

// Text returns the line as it is written.
func (l rowLine) Text() string { return texts.Numbers(words[rowWord], int(l)) }

// Part returns which part of the text the line belongs to.
func (rowLine) Part() int { return rowWord }

// lineOf returns the line of some words.
func lineOf(parts []string) texts.Line {
	switch {
	case len(parts) == 3 && parts[0] == words[roundWord]:
		return roundLine{texts.Naturals(parts[1:2], numberDigits)[0], ruleOf(parts[2])}
	case len(parts) == 2 && parts[0] == words[guardWord]:
		return guardLine(texts.Naturals(parts[1:], numberDigits)[0])
	case len(parts) == 2 && parts[0] == words[rowWord]:
		return rowLine(texts.Integers(parts[1:], numberDigits)[0])
	}
	texts.GiveUp()
	return nil
}

// ruleOf returns the rule of a word.
func ruleOf(word string) api.RoundRule {
	for i, w := range ruleWords {
		if w == word {
			return api.RoundDown + api.RoundRule(i)
		}
	}
	texts.GiveUp()
	return 0
}

// sheetOf returns the sheet that lines tell, whether or not it is as defined.
func sheetOf(lines []texts.Line) api.RoundSheet {
	var s api.RoundSheet
	for _, l := range lines {
		switch x := l.(type) {
		case roundLine:
			s.Unit, s.Rule = x.unit, x.rule
		case guardLine:
			s.Errs = append(s.Errs, int(x))
		case rowLine:
			s.Rows = append(s.Rows, int(x))
		}
	}
	return s
}
