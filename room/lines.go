package room

import (
	"slices"
	"strings"

	"ephemerist/api"
	"ephemerist/reckon"
	"ephemerist/texts"
)

// Write returns the line of an entry.
func Write(x api.RoomEntry) (string, api.Errno) {
	if !isFormed(x) {
		return "", api.ErrArg
	}
	return written(x), api.OK
}

// Parse returns the entry of a line.
func Parse(line string) (api.RoomEntry, api.Errno) {
	if len(line) > api.RoomLine {
		return api.RoomEntry{}, api.ErrLong
	}
	x := spokenIn(line).entry()
	if !isFormed(x) {
		return api.RoomEntry{}, api.ErrText
	}
	return x, api.OK
}

// The words of entries, in the order of their kinds.
const (
	waitWord = iota
	giveWord
	columnWord
	againWord
	passWord
	payWord
	dueWord
	startWord
	readWord
	undoWord
)

// numberDigits is how many digits api.RoomNumber has.
const numberDigits = 5

// form is how entries of a kind are written: a word, and how many numbers after
// it.
type form struct {
	word   string
	fewest int
	most   int
}

var forms = [...]form{
	waitWord:   {"wait", 1, 1},
	giveWord:   {"give", 4, 4},
	columnWord: {"column", 3, 2 + api.RoomRows},
	againWord:  {"again", 2, 2},
	passWord:   {"pass", 2, 1 + api.RoomRows},
	payWord:    {"pay", 7, 7},
	dueWord:    {"due", 2, 2},
	startWord:  {"start", 3, 3},
	readWord:   {"read", 3, 3},
	undoWord:   {"undo", 0, 0},
}

func isFormed(x api.RoomEntry) bool {
	if !reckon.Within(int(x.Kind), int(api.RoomWait), len(forms)) {
		return false
	}
	f := forms[x.Kind-api.RoomWait]
	return reckon.Within(len(x.Numbers), f.fewest, f.most) && !slices.ContainsFunc(x.Numbers, isNoNumber)
}

func isNoNumber(n int) bool { return !reckon.Within(n, -api.RoomNumber, api.RoomNumber) }

// written asks for an entry that is formed.
func written(x api.RoomEntry) string {
	return texts.Numbers(forms[x.Kind-api.RoomWait].word, x.Numbers...)
}

// spoken is a line: a word and the numbers after it.
type spoken struct {
	word    string
	numbers []int
}

// spokenIn returns what a line says: no word, if what comes after its first one
// is no numbers.
func spokenIn(line string) spoken {
	words := strings.Split(line, " ")
	l, _ := texts.Attempt(func() spoken { return spoken{words[0], texts.Integers(words[1:], numberDigits)} })
	return l
}

// entry returns the entry of a line, which is not formed if there is none.
func (l spoken) entry() api.RoomEntry {
	for word, f := range forms {
		if f.word == l.word {
			return api.RoomEntry{Kind: api.RoomWait + api.RoomKind(word), Numbers: l.numbers}
		}
	}
	return api.RoomEntry{}
}

// question returns the question of a line, or false if there is none.
func (l spoken) question() (api.RoomQuestion, bool) {
	for at, t := range topics {
		if t.word == l.word && len(t.things) == len(l.numbers) {
			return api.RoomQuestion{Kind: api.RoomDay + api.RoomTopic(at), Numbers: l.numbers}, true
		}
	}
	return api.RoomQuestion{}, false
}
