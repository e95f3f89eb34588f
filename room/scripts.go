package room

import (
	"strings"

	"ephemerist/api"
	"ephemerist/texts"
)

// Replay returns a desk at which all entries of a journal were made.
func Replay(s api.RoomSuite, journal string) (*Desk, int, api.Errno) {
	d, e := Open(s)
	switch {
	case e != api.OK:
		return nil, 0, e
	case len(journal) > api.RoomText:
		return nil, 0, api.ErrLong
	}
	at := 0
	for line := range strings.Lines(journal) {
		if e := d.replay(line); e != api.OK {
			return nil, at, e
		}
		at++
	}
	return d, -1, api.OK
}

// Console returns the answers of a script.
func Console(s api.RoomSuite, script string) (string, api.Errno) {
	d, e := Open(s)
	switch {
	case e != api.OK:
		return "", e
	case len(script) > api.RoomText:
		return "", api.ErrLong
	case script != "" && !strings.HasSuffix(script, "\n"):
		return "", api.ErrText
	}
	var answers strings.Builder
	for line := range strings.Lines(script) {
		answers.WriteString(d.answer(strings.TrimSuffix(line, "\n")) + "\n")
	}
	return answers.String(), api.OK
}

// What is answered to lines of a script.
const (
	notedAnswer   = "noted"
	nothingAnswer = "nothing"
	errorAnswer   = "error"
)

// replay makes the entry of a line of a journal.
func (d *Desk) replay(line string) api.Errno {
	body, ended := strings.CutSuffix(line, "\n")
	x, e := Parse(body)
	if !ended || e != api.OK {
		return api.ErrText
	}
	return d.Enter(x)
}

// answer enters or asks what a line of a script says.
func (d *Desk) answer(line string) string {
	if len(line) > api.RoomLine {
		return refusal(api.ErrLong)
	}
	l := spokenIn(line)
	if x := l.entry(); isFormed(x) {
		return noted(d.Enter(x))
	}
	if q, asks := l.question(); asks {
		return told(d.Ask(q))
	}
	return refusal(api.ErrText)
}

// noted returns the answer for an entry.
func noted(e api.Errno) string {
	if e != api.OK {
		return refusal(e)
	}
	return notedAnswer
}

// told returns the answer for a question.
func told(numbers []int, e api.Errno) string {
	switch {
	case e != api.OK:
		return refusal(e)
	case len(numbers) == 0:
		return nothingAnswer
	}
	return strings.TrimPrefix(texts.Numbers("", numbers...), " ")
}

func refusal(e api.Errno) string { return texts.Numbers(errorAnswer, int(e)) }
