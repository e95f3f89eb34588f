package room_test

import (
	"slices"
	"testing"

	"ephemerist/api"
	"ephemerist/copies"
	"ephemerist/room"
	"ephemerist/trial"
)

// P10.3: the errors of questions, in their order.
func TestQuestionErrors(t *testing.T) {
	s := suiteS()
	done := entries("give 0 0 1 2", "wait 4", "column 0 0 121 126", "column 0 1 121 116")
	full := entries("pay 2 0 0 0 0 0 0", "pay 2 0 0 0 0 0 0")
	for _, x := range []struct {
		made      []api.RoomEntry
		questions []string
		want      api.Errno
	}{
		// what there is not, also where a rule forbids the answer
		{nil, trial.List("given -1", "given 2", "given 99999", "wrote -1 0", "wrote 2 0", "wrote 0 -1", "wrote 0 3", "values -1 0", "values 2 0", "values 0 -1", "values 0 2", "wrong 2 0", "wrong -1 0", "wrong 0 3", "wrong 0 -1", "known -1", "known 2", "owed -1 0 0", "owed 3 0 0", "owed 0 -1 0", "owed 0 11 0", "owed 0 0 -1", "owed 0 0 11", "total -1", "total 3", "done -1", "done 3"), api.ErrArg},
		{done, trial.List("values 0 2", "wrong 0 3", "wrong 2 0"), api.ErrArg},
		{full, trial.List("owed 3 0 0", "owed 0 11 0", "owed 0 0 11"), api.ErrArg},
		{nil, trial.List("values 0 0", "values 1 1", "wrong 0 0", "wrong 1 2", "back", "tables"), api.ErrRule},
		{done, trial.List("values 1 0", "wrong 1 0", "wrong 0 2", "back", "tables"), api.ErrRule},
		{done[:3], trial.List("values 0 0", "wrong 0 0", "wrong 0 1"), api.ErrRule},
		{append(done, entry("again 0 0")), trial.List("values 0 0", "wrong 0 0", "wrong 0 1"), api.ErrRule},
		{full, trial.List("owed 0 0 0", "owed 2 10 10"), api.ErrRule},
		{full[:1], trial.List("owed 0 0 0", "owed 2 10 10", "total 0"), api.OK},
		{done, trial.List("values 0 0", "values 0 1", "wrong 0 0", "wrong 0 1"), api.OK},
		{entries("give 0 0 1 2", "wait 4", "column 0 0 121 126", "column 0 1 5 5"), trial.List("values 0 0", "values 0 1", "wrong 0 0", "wrong 0 1"), api.ErrNone},
		{entries("give 0 0 1 2", "wait 4", "column 0 0 126 126", "column 0 1 126 126"), trial.List("values 0 0"), api.ErrOpen},
		{entries("give 0 0 1 2", "wait 4", "column 0 0 126 126", "column 0 1 126 126"), trial.List("values 0 1", "wrong 0 0", "wrong 0 1"), api.OK},
		{entries("read 1 0 4", "read 1 1 1", "read 4 0 4"), trial.List("copy"), api.ErrNone},
		{entries("due 0 0", "due 1 0"), trial.List("first"), api.ErrNone},
		{entries("read 1 0 4", "read 1 1 1"), trial.List("copy", "first"), api.OK},
	} {
		desk := opened(t, s, x.made...)
		for _, q := range x.questions {
			if y, e := desk.Ask(question(q)); e != x.want || (e == api.OK) == (len(y) == 0) {
				t.Error(x.made, q, y, e)
			}
		}
	}
}

// P10.3: kinds that there are not, and numbers that are too few, too many or far out of range.
func TestBadQuestions(t *testing.T) {
	desk := opened(t, suiteS(), entries("give 0 0 1 2", "give 1 0 1 2", "wait 9", "column 0 0 121 126", "column 0 1 121 126")...)
	var bad []api.RoomQuestion
	for _, kind := range list(least, -1, 0, 22, most) {
		for many := range 4 {
			bad = append(bad, api.RoomQuestion{Kind: api.RoomTopic(kind), Numbers: make([]int, many)})
		}
	}
	for i, topic := range topics {
		right := len(topic.of)
		for many := range 6 {
			if many != right {
				bad = append(bad, api.RoomQuestion{Kind: api.RoomTopic(i + 1), Numbers: make([]int, many)})
			}
		}
		for at := range right {
			for _, n := range list(least, -100000, -1, 12, 100000, most) {
				numbers := make([]int, right)
				numbers[at] = n
				bad = append(bad, api.RoomQuestion{Kind: api.RoomTopic(i + 1), Numbers: numbers})
			}
		}
		if y, e := desk.Ask(api.RoomQuestion{Kind: api.RoomTopic(i + 1), Numbers: make([]int, right)}); e != api.OK {
			t.Error(topic, y, e)
		}
	}
	for _, q := range bad {
		if y, e := desk.Ask(q); len(y) > 0 || e != api.ErrArg {
			t.Error(q, y, e)
		}
	}
}

// P10.3: what entries change in the answers, and that nothing else changes.
func TestAnswers(t *testing.T) {
	done := trial.List("give 0 0 1 2", "wait 4", "column 0 0 121 126", "column 0 1 121 116")
	for _, x := range []struct {
		made     []string
		question string
		want     []int
	}{
		{nil, "day", list(0)}, {done, "day", list(4)}, {append(done, "wait 95"), "day", list(99)},
		{nil, "left", list(0, 1)}, {done, "left", list(1)}, {append(done, "give 1 1 2 0"), "left", nil}, {trial.List("give 1 1 2 0"), "left", list(0)},
		{nil, "given 0", nil}, {done, "given 0", list(0, 1, 2)}, {done, "given 1", nil}, {trial.List("give 1 1 2 0"), "given 1", list(1, 2, 0)},
		{done, "wrote 0 0", list(121, 126)}, {done, "wrote 0 1", list(121, 116)}, {done, "wrote 0 2", nil}, {done, "wrote 1 0", nil}, {append(done, "again 0 0"), "wrote 0 0", nil}, {append(done, "again 0 0"), "wrote 0 1", list(121, 116)}, {append(done, "again 0 0", "undo"), "wrote 0 0", list(121, 126)}, {append(done, "again 0 0", "column 0 0 -5 999"), "wrote 0 0", list(-5, 999)},
		{done, "values 0 0", list(121)}, {done, "values 0 1", list(126, 216)}, {done, "wrong 0 0", list(1, 2)}, {done, "wrong 0 1", list(1, 3)}, {append(done, "pass 0 121 126"), "values 0 1", list(126, 216)},
		{nil, "passed", nil}, {done, "passed", nil}, {append(done, "pass 0 121 126"), "passed", list(0)}, {append(done, "pass 0 121 126", "undo"), "passed", nil},
		{nil, "truths", list(9)}, {trial.List("start 0 120 121"), "truths", list(6)}, {trial.List("start 0 120 121", "start 1 4 4"), "truths", list(2)}, {append(done, "pass 0 121 126"), "truths", list(1)},
		{nil, "known 0", list(120, 122)}, {nil, "known 1", list(4, 6)}, {trial.List("start 0 120 121"), "known 0", list(120, 121)}, {append(done, "pass 0 121 126"), "known 0", list(121, 121)},
		{nil, "next", list(3, 1)}, {trial.List("start 0 121 121"), "next", list(1, 1)}, {trial.List("start 1 4 4"), "next", list(0, 1)}, {append(done, "pass 0 121 126"), "next", list(0, 1)},
		{nil, "sure", list(0, 2)}, {append(done, "pass 0 121 126"), "sure", list(0, 1, 2, 3)}, {trial.List("start 1 4 4", "start 0 120 120"), "sure", list(0, 1, 2, 3)},
		{trial.List("give 0 0 1 2", "give 1 1 2 0"), "back", list(5, 8, 6, 11)}, {trial.List("wait 9", "give 1 1 2 0", "wait 9", "give 0 0 1 2"), "back", list(5, 8, 6, 11)}, {trial.List("give 0 1 2 0", "give 1 0 1 2"), "back", list(6, 9, 5, 8)},
		{trial.List("give 0 0 1 2", "give 1 1 2 0"), "tables", list(3, 2)}, {trial.List("give 0 0 1 2", "give 1 1 2 0", "due 1 11"), "tables", list(3, 3)}, {trial.List("give 0 0 1 2", "give 1 1 2 0", "due 0 4", "due 1 10"), "tables", list(1, 2)}, {trial.List("give 0 0 1 2", "give 1 1 2 0", "due 0 4", "due 0 8"), "tables", list(3, 2)},
		{nil, "first", list(1, 2, 0, 0, 1, 2)}, {trial.List("due 1 11"), "first", list(0, 1, 2, 0, 1, 2)}, {trial.List("give 0 0 1 2"), "first", list(1, 2, 0, 0, 1, 2)},
		{nil, "blame", list(1, 3, 1, 1, 2, 2)}, {trial.List("read 4 0 8"), "blame", list(1, 3, 1, 1, 3, 1)}, {trial.List("read 4 0 4"), "blame", list(1, 3, 1, 1, 1, 3)},
		{nil, "fewest", list(2)}, {trial.List("read 4 0 9"), "fewest", list(3)}, {trial.List("read 1 1 7"), "fewest", list(3)}, {trial.List("read 1 1 7", "undo"), "fewest", list(2)},
		{nil, "copy", list(4, 0, 1)}, {trial.List("read 4 0 8"), "copy", list(1, 0, 1)},
		{nil, "owed 0 0 0", list(0, 0)}, {nil, "owed 2 1 2", list(16, 16)}, {append(done, "pass 0 121 126"), "owed 1 0 0", list(24, 24)}, {append(done, "pass 0 121 126"), "owed 0 0 0", list(32, 32)}, {append(done, "pass 0 121 126"), "owed 2 0 0", list(0, 0)},
		{nil, "total 0", list(176, 180)}, {nil, "total 2", list(0, 0)}, {append(done, "pass 0 121 126", "pay 1 0 0 0 0 6 0"), "total 1", list(84, 88)},
		{append(done, "pass 0 121 126"), "done 0", list(1, 0)}, {append(done, "pass 0 121 126"), "done 1", list(1, 1)}, {append(done, "pass 0 121 126"), "done 2", list(0, 0)}, {append(done, "pass 0 121 126", "pay 1 0 0 0 0 6 0"), "done 1", list(0, 0)}, {append(done, "pass 0 121 126", "pay 1 0 0 0 0 6 0"), "done 0", list(1, 0)}, {append(done, "pass 0 121 126", "pay 1 0 0 0 0 6 0", "undo"), "done 1", list(1, 1)},
		{append(done, "pass 0 121 126", "undo"), "stands", list(0, 1, 2, 3)},
	} {
		desk := opened(t, suiteS(), entries(x.made...)...)
		if got, e := desk.Ask(question(x.question)); e != api.OK || !slices.Equal(got, x.want) {
			t.Error(x.made, x.question, got, e)
		}
	}
}

// P10.3, R8 and P0.10: a question changes nothing, and is answered the same again.
func TestAskChangesNothing(t *testing.T) {
	pasts(t, 60, func(t *testing.T, d *dice, s api.RoomSuite, made []api.RoomEntry) {
		asked, other := opened(t, s), opened(t, s, made...)
		for _, x := range made {
			everything(asked, s)
			if e := asked.Enter(x); e != api.OK {
				t.Fatal(s, made, x, e)
			}
		}
		first := everything(asked, s)
		if again, want := everything(asked, s), everything(other, s); again != first || want != first {
			t.Fatal(s, made, first, again, want)
		}
		x := d.next(pastOf(s, made))
		if e, f := asked.Enter(x), other.Enter(x); e != f {
			t.Fatal(s, made, x, e, f)
		}
	})
}

// P10.13: what was read in copies is what the tree has, and the answers are those of layer 7.
func TestCopies(t *testing.T) {
	read := 0
	pasts(t, 1200, func(t *testing.T, _ *dice, s api.RoomSuite, made []api.RoomEntry) {
		desk := opened(t, s, made...)
		tree := cloned(s).Tree
		for _, x := range pastOf(s, made).entries {
			if n := x.Numbers; x.Kind == api.RoomRead {
				tree.Copies[n[0]].Seen[n[1]] = n[2]
				read++
			}
		}
		words, e := copies.Blame(tree)
		if y, f := desk.Ask(question("blame")); e != api.OK || f != api.OK || !slices.Equal(y, numbersOf(words)) {
			t.Fatal(s, made, y, words, e, f)
		}
		many, e := copies.Fewest(tree)
		if y, f := desk.Ask(question("fewest")); e != api.OK || f != api.OK || !slices.Equal(y, list(many)) {
			t.Fatal(s, made, y, many, e, f)
		}
		from, place, left, e := copies.Next(tree)
		y, f := desk.Ask(question("copy"))
		if e != f || e == api.OK && !slices.Equal(y, list(from, place, left)) || e != api.OK && len(y) > 0 {
			t.Fatal(s, made, y, from, place, left, e, f)
		}
		// what was read cannot be read again, and what was not can be
		for i, c := range tree.Copies {
			for place, figure := range c.Seen {
				again, _ := room.Open(s)
				for _, x := range made[:min(len(made), 23)] {
					again.Enter(x)
				}
				if len(made) < 24 && (again.Enter(entry(line("read", i, place, 5))) == api.OK) != (figure < 0) {
					t.Fatal(s, made, i, place, figure)
				}
			}
		}
	})
	if read < 200 {
		t.Error(read)
	}
}
