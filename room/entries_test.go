package room_test

import (
	"slices"
	"strings"
	"testing"

	"ephemerist/api"
	"ephemerist/differ"
	"ephemerist/hands"
	"ephemerist/pay"
	"ephemerist/room"
	"ephemerist/trial"
)

// P10.2 and P10.3: entries are made just if they go, and all questions are answered as among the entries that stand; an entry that is not made changes nothing.
func TestEnterAndAsk(t *testing.T) {
	var goes, no [11]int
	suites(t, 600, func(t *testing.T, d *dice, s api.RoomSuite) {
		desk := opened(t, s)
		var made []api.RoomEntry
		for range d.From(10, 60) {
			x := d.next(pastOf(s, made))
			want := entered(s, made, x)
			if e := desk.Enter(x); e != want {
				t.Fatal(s, made, x, e, want)
			}
			switch want {
			case api.OK:
				made = append(made, x)
				goes[x.Kind]++
			case api.ErrRule:
				no[x.Kind]++
			}
			if d.From(0, 9) > 0 {
				continue
			}
			if got, want := everything(desk, s), everythingOf(s, made); got != want {
				t.Fatal(s, journalOf(made), x, got, want)
			}
		}
		if journal, e := desk.Journal(); e != api.OK || journal != journalOf(made) {
			t.Fatal(journal, e, journalOf(made))
		}
	})
	if slices.Min(goes[1:]) < 150 || slices.Min(no[1:]) < 20 {
		t.Error(goes, no)
	}
}

// P10.2: what each row of the table asks for, one thing at a time.
func TestEntriesThatGo(t *testing.T) {
	give := trial.List("give 0 0 1 2")
	done := append(give, "wait 4", "column 0 0 121 126", "column 0 1 121 116")
	later := trial.List("wait 3", "give 1 1 2 0")
	for _, x := range []struct {
		made []string
		goes []string
		no   []string
	}{
		{nil, trial.List("wait 1", "wait 99"), trial.List("wait 0", "wait -1", "wait 100", "wait 99999", "wait -99999")},
		{trial.List("wait 98"), trial.List("wait 1"), trial.List("wait 2", "wait 99")},
		{trial.List("wait 99"), nil, trial.List("wait 1")},
		{nil, trial.List("give 0 0 1 2", "give 1 1 2 0", "give 0 1 2 0"), trial.List("give -1 0 1 2", "give 2 0 1 2", "give 0 0 2 1", "give 0 1 0 2", "give 0 0 0 2", "give 0 0 1 0", "give 0 0 1 1", "give 0 0 1 3", "give 0 -1 1 2", "give 0 0 3 2", "give 0 0 1 -1", "give 0 99999 99999 99999")},
		{give, trial.List("give 1 0 1 2"), trial.List("give 0 0 1 2", "give 0 1 2 0")},
		// the hand 0 needs two days for the post and two for the sheet, the hand 1 one for the sheet, and 2 is no hand
		{append(give, "wait 3"), trial.List("column 0 1 121 126", "column 0 1 -999 999", "column 0 1 0 0"), trial.List("column 0 0 121 126", "column 0 2 121 126", "column 0 3 121 126", "column 0 -1 121 126", "column 1 0 121 126", "column -1 0 121 126", "column 2 0 121 126", "column 0 1 121", "column 0 1 121 126 131", "column 0 1 1000 126", "column 0 1 121 1000", "column 0 1 -1000 126", "column 0 1 121 99999")},
		{give, nil, trial.List("column 0 0 121 126", "column 0 1 121 126")},
		{append(give, "wait 1"), trial.List("column 0 1 121 126"), trial.List("column 0 0 121 126")},
		{append(give, "wait 4"), trial.List("column 0 0 121 126", "column 0 1 121 126"), trial.List("column 0 2 121 126")},
		{later, nil, trial.List("column 1 1 131 136", "column 1 2 131 136", "column 1 0 131 136", "column 0 1 121 126")},
		{append(later, "wait 1"), trial.List("column 1 1 131 136"), trial.List("column 1 2 131 136")},
		{append(later, "wait 2"), nil, trial.List("column 1 2 131 136")},
		{append(later, "wait 3"), trial.List("column 1 2 131 136"), trial.List("column 1 0 131 136")},
		{done, trial.List("again 0 0", "again 0 1"), trial.List("column 0 0 121 126", "column 0 1 121 126", "again 0 2", "again 0 3", "again 0 -1", "again 1 0", "again 1 1", "again -1 0", "again 2 0")},
		{append(done, "again 0 1"), trial.List("column 0 1 121 126", "again 0 0"), trial.List("column 0 0 121 126", "again 0 1", "pass 0 121 126")},
		{append(done, "again 0 1", "column 0 1 121 126"), trial.List("again 0 1", "pass 0 121 126"), trial.List("column 0 1 121 126")},
		{append(done, "pass 0 121 126"), nil, trial.List("again 0 0", "again 0 1", "column 0 0 121 126", "pass 0 121 126", "pass 0 121 116")},
		// 216 would be right by layer 2, but no truth has it; 121 116 by no error of the hand 0
		{done, trial.List("pass 0 121 126"), trial.List("pass 0 121 216", "pass 0 121 116", "pass 0 121", "pass 0 121 126 131", "pass 1 131 136", "pass -1 121 126", "pass 2 121 126", "pass 0 121 1126", "pass 0 121 127", "pass 0 1000 126")},
		{append(done, "start 1 4 4"), nil, trial.List("pass 0 121 126")},
		{append(done, "start 1 5 5"), trial.List("pass 0 121 126"), nil},
		{append(give, "wait 4", "column 0 0 121 126"), nil, trial.List("pass 0 121 126")},
		{append(give, "wait 4", "column 0 1 121 126"), nil, trial.List("pass 0 121 126")},
		// a right column by itself, but not beside the one of the other sheet
		{append(done, "pass 0 121 126", "give 1 0 1 2", "wait 4", "column 1 0 132 137", "column 1 1 132 137"), nil, trial.List("pass 1 132 137", "pass 1 131 136")},
		{append(done, "pass 0 121 126", "give 1 0 1 2", "wait 4", "column 1 0 131 136", "column 1 1 131 136"), trial.List("pass 1 131 136"), trial.List("pass 1 132 137")},
		{append(done, "give 1 0 1 2", "wait 4", "column 1 0 132 137", "column 1 1 132 137"), trial.List("pass 1 132 137"), trial.List("pass 1 131 136")},
		{append(done, "pass 0 121 126"), trial.List("pay 1 0 0 0 0 6 0", "pay 0 0 0 0 0 8 0", "pay 2 0 0 0 0 0 0"), trial.List("pay 1 0 0 0 0 7 0", "pay 1 0 0 0 0 5 0", "pay 1 0 0 0 0 0 0", "pay 1 0 0 0 0 6 1", "pay -1 0 0 0 0 0 0", "pay 3 0 0 0 0 0 0", "pay 0 0 0 0 0 7 0")},
		{append(done, "pass 0 121 126", "pay 1 0 0 0 0 6 0"), trial.List("pay 1 0 0 0 0 0 0", "pay 1 0 1 0 0 1 0"), trial.List("pay 1 0 0 0 0 6 0")},
		{done, trial.List("pay 1 0 0 0 0 0 0", "pay 2 10 0 0 2 6 0", "pay 2 0 10 0 0 5 0"), trial.List("pay 1 0 0 0 0 6 0", "pay 2 11 0 0 2 9 0", "pay 2 -1 0 0 0 0 0", "pay 2 0 11 0 0 5 0", "pay 2 0 -1 0 0 0 0", "pay 2 10 0 0 1 18 0", "pay 2 10 0 0 2 5 4", "pay 2 10 0 0 2 6 -1", "pay 2 10 0 1 -18 6 0")},
		{trial.List("pay 2 0 0 0 0 0 0", "pay 2 0 0 0 0 0 0"), nil, trial.List("pay 2 0 0 0 0 0 0")},
		{nil, trial.List("due 0 0", "due 1 99", "due 0 50"), trial.List("due -1 5", "due 2 5", "due 0 -1", "due 0 100", "due 1 99999")},
		{trial.List("wait 7"), trial.List("due 0 7", "due 0 99"), trial.List("due 0 6", "due 0 0", "due 0 100")},
		{trial.List("wait 99"), trial.List("due 1 99"), trial.List("due 1 98")},
		{nil, trial.List("start 0 120 122", "start 0 121 121", "start 0 120 120", "start 1 6 6"), trial.List("start -1 5 5", "start 2 5 5", "start 0 119 122", "start 0 120 123", "start 0 122 121", "start 0 119 119", "start 0 123 123", "start 1 120 122")},
		{trial.List("start 0 121 122"), trial.List("start 0 121 122", "start 0 122 122"), trial.List("start 0 120 122", "start 0 120 121", "start 0 120 120")},
		{append(done, "pass 0 121 126"), trial.List("start 0 121 122", "start 0 120 121", "start 1 5 5"), trial.List("start 0 120 120", "start 0 122 122", "start 1 4 4", "start 1 6 6")},
		{nil, trial.List("read 1 0 0", "read 1 1 9", "read 4 0 5"), trial.List("read -1 0 5", "read 6 0 5", "read 1 -1 5", "read 1 2 5", "read 1 0 -1", "read 1 0 10", "read 0 0 4", "read 5 1 7")},
		{trial.List("read 1 0 0"), trial.List("read 1 1 0"), trial.List("read 1 0 0", "read 1 0 5")},
		{nil, nil, trial.List("undo")}, {trial.List("wait 1"), trial.List("undo"), nil}, {trial.List("wait 1", "undo"), nil, trial.List("undo")}, {trial.List("wait 1", "wait 1", "undo"), trial.List("undo"), nil}, {trial.List("wait 1", "undo", "wait 1", "undo"), nil, trial.List("undo")},
	} {
		for _, l := range x.goes {
			if e := opened(t, suiteS(), entries(x.made...)...).Enter(entry(l)); e != api.OK {
				t.Error(x.made, l, e)
			}
		}
		desk := opened(t, suiteS(), entries(x.made...)...)
		for _, l := range x.no {
			if e := desk.Enter(entry(l)); e != api.ErrRule {
				t.Error(x.made, l, e)
			}
		}
		if got, want := everything(desk, suiteS()), everythingOf(suiteS(), entries(x.made...)); got != want {
			t.Error(x.made, got, want)
		}
	}
}

// badEntries are entries that are not formed, each for one reason.
func badEntries() []api.RoomEntry {
	var bad []api.RoomEntry
	for _, kind := range list(least, -1, 0, 11, most) {
		for many := range 9 {
			bad = append(bad, api.RoomEntry{Kind: api.RoomKind(kind), Numbers: make([]int, many)})
		}
	}
	for i, k := range kinds {
		kind := api.RoomKind(i + 1)
		for many := range 12 {
			if many < k.fewest || many > k.most {
				bad = append(bad, api.RoomEntry{Kind: kind, Numbers: slices.Repeat(list(1), many)})
			}
		}
		for many := k.fewest; many <= k.most; many++ {
			for at := range many {
				for _, n := range list(least, -100000, 100000, most) {
					numbers := slices.Repeat(list(1), many)
					numbers[at] = n
					bad = append(bad, api.RoomEntry{Kind: kind, Numbers: numbers})
				}
			}
		}
	}
	return append(bad, api.RoomEntry{Kind: api.RoomColumn, Numbers: make([]int, 1000)}, api.RoomEntry{Kind: api.RoomUndo, Numbers: make([]int, 1000)})
}

// R1: an entry that is not formed, a desk that is full, and an entry that does not go.
func TestEntryErrors(t *testing.T) {
	s := suiteS()
	for many := range 25 {
		made := slices.Repeat(entries("wait 1"), many)
		if many > 3 {
			made[3] = entry("undo")
		}
		desk := opened(t, s, made...)
		full := many == 24
		for _, x := range badEntries() {
			if e := desk.Enter(x); e != api.ErrArg {
				t.Error(many, x, e)
			}
		}
		want := api.ErrRule
		if full {
			want = api.ErrLong
		}
		for _, x := range entries("wait 0", "give 5 5 5 5", "wait 99999") {
			if e := desk.Enter(x); e != want {
				t.Error(many, x, e)
			}
		}
		if got, want := everything(desk, s), everythingOf(s, made); got != want {
			t.Error(many, got, want)
		}
		if e := desk.Enter(entry("wait 1")); (e == api.OK) == full || full && e != api.ErrLong {
			t.Error(many, e)
		}
	}
	// an undo is an entry, too
	full := opened(t, s, slices.Repeat(entries("wait 1", "undo"), 12)...)
	for _, x := range entries("undo", "wait 1") {
		if e := full.Enter(x); e != api.ErrLong {
			t.Error(x, e)
		}
	}
}

// P10.4: some truth of the plan agrees with all right columns, by layer 1.
func TestSomeTruthAgrees(t *testing.T) {
	passed, narrow := 0, 0
	pasts(t, 800, func(t *testing.T, _ *dice, s api.RoomSuite, made []api.RoomEntry) {
		desk := opened(t, s, made...)
		p := pastOf(s, made)
		var notes []api.DifferSeen
		for _, x := range p.entries {
			if x.Kind == api.RoomPass {
				for place, n := range x.Numbers[1:] {
					notes = append(notes, api.DifferSeen{Row: x.Numbers[0]*p.size() + place, Value: n})
				}
			}
			if x.Kind == api.RoomStart {
				narrow++
			}
		}
		if len(notes) > 0 {
			passed++
		}
		many, e := differ.Agree(p.plan(), notes)
		got, f := desk.Ask(question("truths"))
		if e != api.OK || f != api.OK || many < 1 || !slices.Equal(got, list(many)) {
			t.Fatal(s, made, many, got, e, f)
		}
		// of the suite's own plan, too
		if many, e := differ.Agree(s.Plan, notes); e != api.OK || many < 1 {
			t.Fatal(s, made, many, e)
		}
	})
	if passed < 150 || narrow < 150 {
		t.Error(passed, narrow)
	}
}

// P10.5: no task has a fault, columns come from their hands, and not before they can.
func TestColumnsComeFromTheirHands(t *testing.T) {
	columns := 0
	pasts(t, 800, func(t *testing.T, _ *dice, s api.RoomSuite, made []api.RoomEntry) {
		desk := opened(t, s, made...)
		for sheet := range s.Book.Sheets {
			task, e := desk.Ask(question(line("given", sheet)))
			if e != api.OK || len(task) > 0 && !(pastOf(s, nil).isFaultless(task[0], task[1], task[2])) {
				t.Fatal(s, made, sheet, task, e)
			}
			for computer := range s.Book.Computers {
				wrote, e := desk.Ask(question(line("wrote", sheet, computer)))
				if e != api.OK || len(wrote) > 0 && !slices.Contains(task[:2], computer) {
					t.Fatal(s, made, sheet, computer, task, wrote, e)
				}
			}
		}
		day, given := 0, map[int]int{}
		for _, x := range pastOf(s, made).entries {
			switch n := x.Numbers; x.Kind {
			case api.RoomWait:
				day += n[0]
			case api.RoomGive:
				given[n[0]] = day
			case api.RoomColumn:
				columns++
				if c := s.Book.Computers[n[1]]; day-given[n[0]] < 2*c.Post.Low+c.Sheet.Low {
					t.Fatal(s, made, x, day, given)
				}
			}
		}
	})
	if columns < 500 {
		t.Error(columns)
	}
}

// P10.6: each right column is one of the columns of both hands, by layer 2.
func TestRightColumns(t *testing.T) {
	wrong := 0
	pasts(t, 800, func(t *testing.T, _ *dice, s api.RoomSuite, made []api.RoomEntry) {
		desk := opened(t, s, made...)
		passed, e := desk.Ask(question("passed"))
		for _, sheet := range passed {
			p := pastOf(s, made)
			both := api.HandsSheet{Errors: list(s.Errors, s.Errors)}
			for _, hand := range p.hands(sheet) {
				wrote, f := desk.Ask(question(line("wrote", sheet, hand)))
				both.Columns = append(both.Columns, wrote)
				if e != api.OK || f != api.OK {
					t.Fatal(s, made, e, f)
				}
			}
			if is, e := hands.Agrees(both, p.right(sheet)); e != api.OK || !is {
				t.Fatal(s, made, sheet, both, is, e)
			}
			if !slices.Equal(both.Columns[0], both.Columns[1]) {
				wrong++
			}
		}
	})
	if wrong < 50 {
		t.Error(wrong)
	}
}

// P10.7 and P0.8: the lines of pay agree with some truth, and no hand is paid for a sheet twice, or for one that is not passed.
func TestPay(t *testing.T) {
	paid := 0
	pasts(t, 800, func(t *testing.T, _ *dice, s api.RoomSuite, made []api.RoomEntry) {
		desk := opened(t, s, made...)
		p := pastOf(s, made)
		book := p.pay()
		if _, e := pay.Agrees(book); e != api.OK {
			t.Fatal(s, made, book, e)
		}
		passed, e := desk.Ask(question("passed"))
		for hand := range s.Book.Computers {
			sheets, errors := 0, 0
			for _, l := range book.Lines[len(s.Pay.Lines):] {
				if l.Hand == hand {
					sheets += l.Sheets
					errors += l.Errors.Low
					paid += l.Sheets
				}
			}
			for _, sheet := range passed {
				if !slices.Contains(p.hands(sheet), hand) {
					continue
				}
				sheets--
				made, f := hands.Errors(p.right(sheet), p.column(sheet, hand))
				errors -= len(made)
				if f != api.OK {
					t.Fatal(s, made, sheet, hand, f)
				}
			}
			// what is passed, and was not paid, is done
			done, f := desk.Ask(question(line("done", hand)))
			if e != api.OK || f != api.OK || !slices.Equal(done, list(-sheets, -errors)) {
				t.Fatal(s, made, hand, done, sheets, errors, e, f)
			}
		}
	})
	if paid < 100 {
		t.Error(paid)
	}
}

// P10.8: after an undo the desk answers as before the entry that was taken back.
func TestUndo(t *testing.T) {
	undone := 0
	pasts(t, 400, func(t *testing.T, d *dice, s api.RoomSuite, made []api.RoomEntry) {
		made = made[:min(len(made), 20)]
		x := d.next(pastOf(s, made))
		if x.Kind == api.RoomUndo || entered(s, made, x) != api.OK {
			return
		}
		undone++
		desk := opened(t, s, made...)
		before := everything(desk, s)
		for range 2 {
			if e := desk.Enter(x); e != api.OK {
				t.Fatal(s, made, x, e)
			}
			if e := desk.Enter(entry("undo")); e != api.OK {
				t.Fatal(s, made, x, e)
			}
			if got := everything(desk, s); got != before {
				t.Fatal(s, made, x, got, before)
			}
		}
		want := journalOf(made) + strings.Repeat(lineOf(x)+"\nundo\n", 2)
		if journal, e := desk.Journal(); e != api.OK || journal != want {
			t.Fatal(journal, want, e)
		}
	})
	if undone < 100 {
		t.Error(undone)
	}
}

// P10.8: all entries that stand could have been made without the others.
func TestEntriesThatStand(t *testing.T) {
	without := 0
	pasts(t, 400, func(t *testing.T, _ *dice, s api.RoomSuite, made []api.RoomEntry) {
		desk := opened(t, s, made...)
		stands, e := desk.Ask(question("stands"))
		var stand []api.RoomEntry
		for _, number := range stands {
			stand = append(stand, made[number])
		}
		if e != api.OK || !slices.IsSorted(stands) {
			t.Fatal(s, made, stands, e)
		}
		if len(stand) < len(made) {
			without++
		}
		strip := func(d *room.Desk) string {
			all, _, _ := strings.Cut(everything(d, s), "stands")
			return all
		}
		if got, want := strip(opened(t, s, stand...)), strip(desk); got != want {
			t.Fatal(s, made, stand, got, want)
		}
	})
	if without < 100 {
		t.Error(without)
	}
}

// P10.8: the numbers of entries that stand, by which undos were made.
func TestStands(t *testing.T) {
	for _, x := range []struct {
		made string
		want []int
	}{{"", nil}, {"w", list(0)}, {"wu", nil}, {"wuw", list(2)}, {"wwu", list(0)}, {"wwuu", nil}, {"wwuuw", list(4)}, {"wwuwu", list(0)}, {"wwuwuu", nil}, {"wwwuuwwu", list(0, 5)}, {"wuwuwuw", list(6)}, {"wwwwuuuwuw", list(0, 9)}} {
		var made []api.RoomEntry
		for _, k := range x.made {
			made = append(made, entry(map[rune]string{'w': "wait 2", 'u': "undo"}[k]))
		}
		desk := opened(t, suiteS(), made...)
		if got, e := desk.Ask(question("stands")); e != api.OK || !slices.Equal(got, x.want) {
			t.Error(x.made, got, e)
		}
		if got, e := desk.Ask(question("day")); e != api.OK || !slices.Equal(got, list(2*len(x.want))) {
			t.Error(x.made, got, e)
		}
	}
}
