package copies

import (
	"ephemerist/api"
	"ephemerist/texts"
)

// Print returns the text of a tree.
func Print(t api.CopiesTree) (string, api.Errno) {
	if !isTree(t) {
		return "", api.ErrArg
	}
	lines := []texts.Line{copiesLine(t.Places)}
	for _, c := range t.Copies {
		lines = append(lines, copyLine(c))
	}
	return texts.Write(lines, checkModulus), api.OK
}

// Read returns the tree of a text.
func Read(text string) (api.CopiesTree, api.Errno) {
	reading := texts.Reading[api.CopiesTree]{Most: api.CopiesText, Modulus: checkModulus, Line: lineOf, Whole: treeOf, Is: isTree}
	return reading.Read(text)
}

// The words with which lines begin, in the order of the table words and of the
// parts of a text.
const (
	copiesWord = iota
	copyWord
)

var words = [...]string{"copies", "copy"}

const (
	unreadMark   = '?'
	numberDigits = 1
	checkModulus = 257
)

// copiesLine is how many Places there are.
type copiesLine int

// Text returns the line as it is written.
func (l copiesLine) Text() string { return texts.Numbers(words[copiesWord], int(l)) }

// Part returns which part of the text the line belongs to.
func (copiesLine) Part() int { return copiesWord }

type copyLine api.CopiesCopy

// Text returns the line as it is written.
func (l copyLine) Text() string {
	return texts.Numbers(words[copyWord], l.Parent) + " " + written(l.Seen)
}

// Part returns which part of the text the line belongs to.
func (copyLine) Part() int { return copyWord }

// written returns the FIGURES of what was read.
func written(seen []int) string {
	var text []byte
	for _, figure := range seen {
		mark := byte(unreadMark)
		if figure != unread {
			mark = byte('0' + figure)
		}
		text = append(text, mark)
	}
	return string(text)
}

// seenOf returns what FIGURES tell; it gives up if they are none.
func seenOf(text string) []int {
	var seen []int
	for _, d := range text {
		switch {
		case d == unreadMark:
			seen = append(seen, unread)
		case '0' <= d && d <= '9':
			seen = append(seen, int(d-'0'))
		default:
			texts.GiveUp()
		}
	}
	if len(seen) == 0 {
		texts.GiveUp()
	}
	return seen
}

// lineOf returns the line of some words.
func lineOf(parts []string) texts.Line {
	word, rest := parts[0], parts[1:]
	switch {
	case word == words[copiesWord] && len(rest) == 1:
		return copiesLine(texts.Naturals(rest, numberDigits)[0])
	case word == words[copyWord] && len(rest) == 2:
		return copyLine{Parent: texts.Naturals(rest[:1], numberDigits)[0], Seen: seenOf(rest[1])}
	}
	texts.GiveUp()
	return nil
}

// treeOf returns the tree that lines tell, whether or not it is as defined.
func treeOf(lines []texts.Line) api.CopiesTree {
	var t api.CopiesTree
	for _, l := range lines {
		switch x := l.(type) {
		case copiesLine:
			t.Places = int(x)
		case copyLine:
			t.Copies = append(t.Copies, api.CopiesCopy(x))
		}
	}
	return t
}
