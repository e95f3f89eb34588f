package room_test

import (
	"slices"
	"strings"
	"testing"

	"ephemerist/api"
	"ephemerist/room"
	"ephemerist/trial"
)

// replayed fails if a journal does not make a desk that answers as one with some
// entries.
func replayed(t *testing.T, s api.RoomSuite, journal string, made []api.RoomEntry) {
	t.Helper()
	d, at, e := room.Replay(s, journal)
	if e != api.OK || at != -1 {
		t.Fatal(s, journal, at, e)
	}
	if got, want := everything(d, s), everythingOf(s, made); got != want {
		t.Fatal(s, journal, got, want)
	}
	if again, e := d.Journal(); e != api.OK || again != journal {
		t.Fatalf("%q %v, not %q", again, e, journal)
	}
}

// P10.10 and P0.10: a desk that is replayed answers as the one that wrote the journal, and writes the same one.
func TestReplay(t *testing.T) {
	pasts(t, 400, func(t *testing.T, d *dice, s api.RoomSuite, made []api.RoomEntry) {
		desk := opened(t, s, made...)
		journal, e := desk.Journal()
		if e != api.OK || journal != journalOf(made) {
			t.Fatal(s, made, journal, e)
		}
		replayed(t, s, journal, made)
		// and it goes on as the other one does
		again, _, _ := room.Replay(s, journal)
		for range 5 {
			x := d.next(pastOf(s, made))
			if e, f := desk.Enter(x), again.Enter(x); e != f {
				t.Fatal(s, made, x, e, f)
			}
		}
		if got, want := everything(again, s), everything(desk, s); got != want {
			t.Fatal(s, made, got, want)
		}
	})
	replayed(t, suiteS(), "", nil)
	// no journal is too long to be replayed
	long := changed(func(s *api.RoomSuite) { s.Plan.Rows, s.Book.Sheets = 6, list(0) })
	column := line("column", append(list(0, 1), slices.Repeat(list(-999), 6)...)...)
	made := append(entries("give 0 0 1 2", "wait 5"), slices.Repeat(entries(column, "undo"), 11)...)
	replayed(t, long, journalOf(made), made)
}

// P10.10 and R1: the first line with which a desk cannot be made, and why.
func TestReplayErrors(t *testing.T) {
	const good = "give 0 0 1 2\nwait 4\ncolumn 0 0 121 126\n"
	long := strings.Repeat("x", 65)
	for _, x := range []struct {
		journal string
		at      int
		want    api.Errno
	}{
		{"wait 0\n", 0, api.ErrRule}, {good + "wait 0\n", 3, api.ErrRule}, {good + "wait 0\nx\n", 3, api.ErrRule}, {good + "x\nwait 0\n", 3, api.ErrText}, {"wait 99\nwait 1\nwait 0\n", 1, api.ErrRule}, {"undo\n" + good, 0, api.ErrRule},
		{"wait 1", 0, api.ErrText}, {"x", 0, api.ErrText}, {good + "wait 1", 3, api.ErrText}, {good + "undo", 3, api.ErrText}, {good[:len(good)-1], 2, api.ErrText}, {good + "wait 0", 3, api.ErrText}, {good + "wait 0\nwait 1", 3, api.ErrRule},
		{"\n", 0, api.ErrText}, {good + "\n", 3, api.ErrText}, {"\n" + good, 0, api.ErrText}, {" ", 0, api.ErrText}, {good + "\n\n", 3, api.ErrText}, {"wait 1\r\n", 0, api.ErrText}, {good + "wait 01\n", 3, api.ErrText},
		{good + "day\n", 3, api.ErrText}, {good + "stands\nwait 0\n", 3, api.ErrText}, {good + "give 1 0 1\n", 3, api.ErrText}, {good + "wait 100000\n", 3, api.ErrText}, {good + "wait 99999\n", 3, api.ErrRule},
		{long + "\n", 0, api.ErrText}, {good + long + "\n", 3, api.ErrText}, {good + long, 3, api.ErrText}, {good + long[1:] + "\n", 3, api.ErrText},
		// a desk that is full
		{strings.Repeat("wait 1\n", 25), 24, api.ErrLong}, {strings.Repeat("wait 1\n", 24) + "wait 0\n", 24, api.ErrLong}, {strings.Repeat("wait 1\nundo\n", 13), 24, api.ErrLong}, {strings.Repeat("wait 1\n", 24) + "x\n", 24, api.ErrText}, {strings.Repeat("wait 1\n", 24) + "wait 1", 24, api.ErrText}, {strings.Repeat("wait 1\n", 24) + long + "\n", 24, api.ErrText}, {strings.Repeat("wait 1\n", 23) + "wait 0\n", 23, api.ErrRule},
		// too much comes before all lines
		{strings.Repeat("x", 1000), 0, api.ErrText}, {strings.Repeat("x", 1001), 0, api.ErrLong}, {good + strings.Repeat("\n", 1000-len(good)), 3, api.ErrText}, {good + strings.Repeat("\n", 1001-len(good)), 0, api.ErrLong}, {"wait 0\n" + strings.Repeat("x", 1000), 0, api.ErrLong}, {strings.Repeat("undo\n", 200), 0, api.ErrRule}, {strings.Repeat("undo\n", 201), 0, api.ErrLong},
	} {
		if d, at, e := room.Replay(suiteS(), x.journal); d != nil || at != x.at || e != x.want {
			t.Errorf("%q %v %v %v", x.journal, d, at, e)
		}
	}
}

// P10.10: a line of a journal that is another one.
func TestReplayOtherLines(t *testing.T) {
	broken := 0
	pasts(t, 400, func(t *testing.T, d *dice, s api.RoomSuite, made []api.RoomEntry) {
		if len(made) == 0 {
			return
		}
		at := d.From(0, len(made)-1)
		other := slices.Clone(made)
		other[at] = d.next(pastOf(s, made[:at]))
		for i, x := range other {
			want := entered(s, other[:i], x)
			if want == api.OK {
				continue
			}
			broken++
			if desk, n, e := room.Replay(s, journalOf(other)); desk != nil || n != i || e != want {
				t.Fatal(s, other, n, e, i, want)
			}
			return
		}
		replayed(t, s, journalOf(other), other)
	})
	if broken < 100 {
		t.Error(broken)
	}
}

// scripts are scripts with their answers, at desks of the chapter's suite; the
// first two are the chapter's.
func scripts() [][][2]string {
	return [][][2]string{
		{{"left", "0 1"}, {"give 0 0 1 2", "noted"}, {"give 0 1 2 0", "error 7"}, {"give 1 0 2 1", "error 7"}, {"back", "error 7"}, {"give 1 1 2 0", "noted"}, {"given 1", "1 2 0"}, {"left", "nothing"}, {"back", "5 8 6 11"}, {"tables", "3 2"}, {"due 1 11", "noted"}, {"tables", "3 3"}, {"column 0 0 121 126", "error 7"}, {"wait 4", "noted"}, {"due 1 3", "error 7"}, {"column 0 0 121 126", "noted"}, {"column 0 1 121 116", "noted"}, {"column 0 2 121 126", "error 7"}, {"values 0 0", "121"}, {"values 0 1", "126 216"}, {"wrong 0 1", "1 3"}, {"truths", "9"}, {"pass 0 121 216", "error 7"}, {"pass 0 121 126", "noted"}, {"passed", "0"}, {"truths", "1"}, {"known 1", "5 5"}, {"next", "0 1"}, {"sure", "0 1 2 3"}, {"values 1 0", "error 7"}, {"day", "4"}, {"stands", "0 1 2 3 4 5 6"}},
		{{"give 0 0 1 2", "noted"}, {"wait 4", "noted"}, {"column 0 0 121 126", "noted"}, {"column 0 1 121 116", "noted"}, {"again 0 1", "noted"}, {"wrote 0 1", "nothing"}, {"values 0 0", "error 7"}, {"column 0 1 121 116", "noted"}, {"wrote 0 1", "121 116"}, {"done 1", "0 0"}, {"pass 0 121 126", "noted"}, {"again 0 1", "error 7"}, {"done 1", "1 1"}, {"done 0", "1 0"}, {"owed 1 0 0", "24 24"}, {"pay 1 0 0 0 0 7 0", "error 7"}, {"pay 1 0 0 0 0 6 0", "noted"}, {"done 1", "0 0"}, {"total 1", "84 88"}, {"first", "1 2 0 0 1 2"}, {"start 0 121 121", "noted"}, {"start 0 120 121", "error 7"}, {"start 1 6 6", "error 7"}, {"fewest", "2"}, {"blame", "1 3 1 1 2 2"}, {"copy", "4 0 1"}, {"read 4 0 8", "noted"}, {"read 4 0 8", "error 7"}, {"blame", "1 3 1 1 3 1"}, {"undo", "noted"}, {"blame", "1 3 1 1 2 2"}, {"stands", "0 1 2 3 4 5 6 7 8"}},
		// lines that are none, too long, or of things that there are not
		{{"", "error 4"}, {" ", "error 4"}, {"x", "error 4"}, {"day 1", "error 4"}, {"day ", "error 4"}, {" day", "error 4"}, {"Day", "error 4"}, {"day\r", "error 4"}, {"given", "error 4"}, {"given 0 0", "error 4"}, {"given -1", "error 2"}, {"given 2", "error 2"}, {"given 99999", "error 2"}, {"given -99999", "error 2"}, {"given 100000", "error 4"}, {"given -100000", "error 4"}, {"given 00", "error 4"}, {"given -0", "error 4"}, {"given x", "error 4"}, {"wait 0", "error 7"}, {"wait", "error 4"}, {"wait 1 1", "error 4"}, {"wait 100000", "error 4"}, {"give 0 0 1", "error 4"}, {"owed 0 0", "error 4"}, {"owed 0 0 11", "error 2"}},
		{{strings.Repeat("x", 64), "error 4"}, {strings.Repeat("x", 65), "error 3"}, {"day" + strings.Repeat(" ", 62), "error 3"}, {"wait " + strings.Repeat("0", 59) + "1", "error 3"}, {"wait " + strings.Repeat("0", 58) + "1", "error 4"}, {line("column", slices.Repeat(list(-99999), 8)...), "error 7"}, {line("pass", slices.Repeat(list(-99999), 7)...), "error 7"}},
		// a desk that is full
		append(slices.Repeat(trial.List([2]string{"wait 1", "noted"}, [2]string{"undo", "noted"}), 12), [2]string{"wait 1", "error 3"}, [2]string{"undo", "error 3"}, [2]string{"wait 0", "error 3"}, [2]string{"wait", "error 4"}, [2]string{"day", "0"}, [2]string{"stands", "nothing"}),
		// what is open, and what there is not
		{{"give 0 0 1 2", "noted"}, {"wait 9", "noted"}, {"column 0 0 126 126", "noted"}, {"column 0 1 126 126", "noted"}, {"values 0 0", "error 8"}, {"again 0 1", "noted"}, {"column 0 1 5 5", "noted"}, {"values 0 0", "error 5"}, {"wrong 0 1", "error 5"}, {"read 1 0 4", "noted"}, {"read 1 1 1", "noted"}, {"read 4 0 4", "noted"}, {"copy", "error 5"}, {"column 1 0 -5 -999", "error 7"}, {"undo", "noted"}, {"undo", "noted"}, {"copy", "4 0 1"}},
	}
}

// P10.11
func TestConsole(t *testing.T) {
	for _, x := range scripts() {
		script, want := "", ""
		for _, both := range x {
			script += both[0] + "\n"
			want += both[1] + "\n"
		}
		if got, e := room.Console(suiteS(), script); e != api.OK || got != want {
			for i, answer := range strings.Split(got, "\n")[:len(x)] {
				if answer != x[i][1] {
					t.Error(x[i], answer)
				}
			}
			t.Errorf("%q %v", got, e)
		}
	}
}

// P10.11 and R1
func TestConsoleErrors(t *testing.T) {
	for _, x := range []struct {
		script string
		answer string
		want   api.Errno
	}{
		{"", "", api.OK}, {"\n", "error 4\n", api.OK}, {"day\n", "0\n", api.OK}, {"\n\n", "error 4\nerror 4\n", api.OK},
		{"day", "", api.ErrText}, {"x", "", api.ErrText}, {"wait 1\nday", "", api.ErrText}, {"day\n ", "", api.ErrText}, {"day\r", "", api.ErrText},
		{strings.Repeat("x", 1000), "", api.ErrText}, {strings.Repeat("x", 1001), "", api.ErrLong}, {strings.Repeat("undo\n", 200) + "\n", "", api.ErrLong}, {strings.Repeat("undo\n", 200), strings.Repeat("error 7\n", 200), api.OK}, {strings.Repeat("x", 999) + "\n", "error 3\n", api.OK},
	} {
		if got, e := room.Console(suiteS(), x.script); e != x.want || got != x.answer {
			t.Errorf("%q %q %v", x.script, got, e)
		}
	}
}

// P10.11: each line is answered as a desk does at which it is entered, or asked.
func TestConsoleIsDesk(t *testing.T) {
	answers := map[string]int{}
	suites(t, 400, func(t *testing.T, d *dice, s api.RoomSuite) {
		desk := opened(t, s)
		var made []api.RoomEntry
		script, want := "", ""
		note := func(l, answer string) {
			if len(script)+len(l) < 1000 {
				script += l + "\n"
				want += answer + "\n"
				word, _, _ := strings.Cut(answer, " ")
				answers[word]++
			}
		}
		none := notEntries()[:20]
		for len(script) < 950 {
			switch d.From(0, 9) {
			case 0:
				note(trial.Of(&d.Dice, none), "error 4")
			case 1, 2, 3, 4:
				q := trial.Of(&d.Dice, allQuestions(s))
				y, e := desk.Ask(q)
				note(line(topics[q.Kind-1].word, q.Numbers...), answerOf(spoken(y), e))
			default:
				x := d.next(pastOf(s, made))
				e := desk.Enter(x)
				if e == api.OK {
					made = append(made, x)
				}
				note(lineOf(x), answerOf("noted", e))
			}
		}
		if got, e := room.Console(s, script); e != api.OK || got != want {
			t.Fatalf("%v %q %q %q %v", s, script, got, want, e)
		}
	})
	if answers["noted"] < 1000 || answers["nothing"] < 100 || answers["error"] < 1000 {
		t.Error(answers)
	}
}

// answerOf returns the answer with some numbers, or with an error.
func answerOf(numbers string, e api.Errno) string {
	switch {
	case e != api.OK:
		return line("error", int(e))
	case numbers == "":
		return "nothing"
	}
	return numbers
}
