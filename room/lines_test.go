package room_test

import (
	"slices"
	"strings"
	"testing"

	"ephemerist/api"
	"ephemerist/room"
	"ephemerist/trial"
)

// formed returns an entry that is formed.
func (d *dice) formed() api.RoomEntry {
	kind := d.From(0, len(kinds)-1)
	x := api.RoomEntry{Kind: api.RoomKind(kind + 1)}
	for range d.From(kinds[kind].fewest, kinds[kind].most) {
		x.Numbers = append(x.Numbers, trial.Of(&d.Dice, list(0, 1, -1, 9, 10, -10, d.From(-99999, 99999), d.From(-99, 99), 99999, -99999, 10000)))
	}
	return x
}

// sameEntry tells whether two entries are the same one.
func sameEntry(a, b api.RoomEntry) bool {
	return a.Kind == b.Kind && slices.Equal(a.Numbers, b.Numbers)
}

// P10.9 and P0.11: what was written is parsed as what was written.
func TestWriteAndParse(t *testing.T) {
	d := &dice{}
	for range 5000 {
		x := d.formed()
		l, e := room.Write(x)
		y, f := room.Parse(l)
		if e != api.OK || f != api.OK || l != lineOf(x) || len(l) > 64 || !sameEntry(x, y) {
			t.Fatal(x, l, y, e, f)
		}
	}
	for l, x := range map[string]api.RoomEntry{
		"wait 99999": {Kind: api.RoomWait, Numbers: list(99999)}, "wait -1": {Kind: api.RoomWait, Numbers: list(-1)}, "wait 0": {Kind: api.RoomWait, Numbers: list(0)},
		"give 0 0 1 2": {Kind: api.RoomGive, Numbers: list(0, 0, 1, 2)}, "column 0 1 5": {Kind: api.RoomColumn, Numbers: list(0, 1, 5)}, "column 0 1 -60 7 0 10 20 -30": {Kind: api.RoomColumn, Numbers: list(0, 1, -60, 7, 0, 10, 20, -30)}, "again 2 1": {Kind: api.RoomAgain, Numbers: list(2, 1)},
		"pass 0 1": {Kind: api.RoomPass, Numbers: list(0, 1)}, "pass 2 1 2 3 4 5 6": {Kind: api.RoomPass, Numbers: list(2, 1, 2, 3, 4, 5, 6)}, "pay 1 0 2 0 3 6 1": {Kind: api.RoomPay, Numbers: list(1, 0, 2, 0, 3, 6, 1)},
		"due 1 11": {Kind: api.RoomDue, Numbers: list(1, 11)}, "start 1 -99999 -5": {Kind: api.RoomStart, Numbers: list(1, -99999, -5)}, "read 4 0 8": {Kind: api.RoomRead, Numbers: list(4, 0, 8)}, "undo": {Kind: api.RoomUndo},
	} {
		if y, e := room.Write(x); e != api.OK || y != l {
			t.Error(x, y, e)
		}
		if y, e := room.Parse(l); e != api.OK || !sameEntry(x, y) {
			t.Error(l, y, e)
		}
	}
	for _, x := range badEntries() {
		if y, e := room.Write(x); e != api.ErrArg || y != "" {
			t.Error(x, y, e)
		}
	}
}

// notEntries are lines that are not those of entries.
func notEntries() []string {
	var bad []string
	for _, k := range kinds {
		bad = append(bad, trial.NotNumbers(k.word, 0, k.fewest, 5)...)
		bad = append(bad, trial.NotNumbers(k.word, 0, k.most, 5)...)
	}
	// with one number more, or less, some lines of columns are those of entries
	bad = slices.DeleteFunc(bad, func(l string) bool {
		words := strings.Split(l, " ")
		fits := func(word string, fewest, most int) bool {
			return words[0] == word && len(words) > fewest && len(words) <= most+1
		}
		return (fits("column", 3, 8) || fits("pass", 2, 7)) && !slices.ContainsFunc(words[1:], func(w string) bool { return w != "1" })
	})
	for _, t := range topics {
		bad = append(bad, line(t.word, slices.Repeat(list(1), len(t.of))...))
	}
	return append(bad, "", " ", "\n", "1", "-", "undo\n", "wait 1\n", "wait 1\nwait 1", "wait\t1", "wait 1 ", "wait  1", "undo ", " undo", "UNDO", "Wait 1", "\xff", "\x00", "wait 1\x00", "w\u00e4it 1", strings.Repeat("x", 64), "wait "+strings.Repeat("0", 58)+"1")
}

// P10.9 and R1: a line that is too long, and one that is not that of an entry.
func TestParseErrors(t *testing.T) {
	for _, l := range notEntries() {
		want := api.ErrText
		if len(l) > 64 {
			want = api.ErrLong
		}
		if y, e := room.Parse(l); e != want || !sameEntry(y, api.RoomEntry{}) {
			t.Errorf("%q %v %v", l, y, e)
		}
	}
	for _, l := range trial.List("undo", "wait 1", "column 0 1 5", "x", "") {
		for _, long := range trial.List(l+strings.Repeat(" ", 65-len(l)), l+strings.Repeat("1", 65-len(l)), l+" "+strings.Repeat("0", 64-len(l)), strings.Repeat(l+" 1", 65)) {
			if y, e := room.Parse(long); e != api.ErrLong || !sameEntry(y, api.RoomEntry{}) {
				t.Errorf("%q %v %v", long, y, e)
			}
			if y, e := room.Parse(long[:64]); e != api.ErrText || !sameEntry(y, api.RoomEntry{}) {
				t.Errorf("%q %v %v", long[:64], y, e)
			}
		}
	}
	longest := line("column", slices.Repeat(list(-99999), 8)...)
	if y, e := room.Parse(longest); e != api.OK || lineOf(y) != longest || len(longest) != 62 {
		t.Error(longest, y, e)
	}
}

// P10.9: what was parsed is written the same.
func TestParsedIsWrittenTheSame(t *testing.T) {
	d := &dice{}
	some := trial.List("wait 1", "give 0 0 1 2", "column 0 1 -60 7", "again 0 1", "pass 0 121 126", "pay 1 0 0 0 0 6 0", "due 1 11", "start 1 -99999 -5", "read 4 0 8", "undo")
	for range 20 {
		some = append(some, lineOf(d.formed()))
	}
	parsed := 0
	for _, l := range some {
		for _, other := range trial.OtherBytes(l) {
			x, e := room.Parse(other)
			if e != api.OK {
				continue
			}
			parsed++
			if y, e := room.Write(x); e != api.OK || y != other {
				t.Errorf("%q %v %q %v", other, x, y, e)
			}
		}
	}
	if parsed < 1000 {
		t.Error(parsed)
	}
}

// R4: what was parsed shares no memory with what was parsed before.
func TestParseShares(t *testing.T) {
	one, _ := room.Parse("column 0 1 5 6")
	other, _ := room.Parse("column 0 1 5 6")
	if trial.Share(trial.List(one.Numbers, other.Numbers), func(n *int) { *n += 7 }) {
		t.Error(one, other)
	}
}
