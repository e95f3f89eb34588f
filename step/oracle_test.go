package step_test

import (
	"fmt"
	"slices"
	"testing"

	"ephemerist/api"
	"ephemerist/step"
	"ephemerist/trial"
)

// This file has a second way to each result: all truths and all kept lists are
// written out, and all is asked of each.

const (
	down = api.RoundDown
	up   = api.RoundUp
	near = api.RoundNear
	even = api.RoundEven

	never  = api.StepNever
	may    = api.StepMay
	surely = api.StepSurely

	most, least = 1<<63 - 1, -1 << 63
)

func list(n ...int) []int { return trial.List(n...) }

func span(low, high int) api.Span { return api.Span{Low: low, High: high} }

// wide returns a table of spans with their ends.
func wide(rule api.RoundRule, off int, ends ...int) api.StepTable {
	t := api.StepTable{Rule: rule, Off: off}
	for i := 0; i < len(ends); i += 2 {
		t.Values = append(t.Values, span(ends[i], ends[i+1]))
	}
	return t
}

// table returns a table whose rows have one number each.
func table(rule api.RoundRule, off int, numbers ...int) api.StepTable {
	t := api.StepTable{Rule: rule, Off: off}
	for _, n := range numbers {
		t.Values = append(t.Values, span(n, n))
	}
	return t
}

// tableA and tableB are the tables of the chapter.
func tableA() api.StepTable {
	return wide(near, 10, 0, 0, 10, 10, 40, 40, 90, 91, 160, 160, 250, 250, 360, 360)
}

func tableB() api.StepTable {
	return wide(near, 10, 0, 0, 10, 10, 40, 40, 90, 91, 160, 161, 250, 250, 360, 360)
}

// tableOfText returns the table of the chapter's text.
func tableOfText() api.StepTable { return wide(down, 0, 5, 6, 7, 7) }

// keptK and truthT are the kept list and the truth of the chapter.
func keptK() []int { return list(0, 2, 4, 6) }

func truthT() []int { return list(0, 10, 40, 90, 160, 250, 360) }

func withValues(t api.StepTable, values ...api.Span) api.StepTable {
	t.Values = values
	return t
}

func withOff(t api.StepTable, off int) api.StepTable {
	t.Off = off
	return t
}

func sameTable(a, b api.StepTable) bool {
	return slices.Equal(a.Values, b.Values) && a.Rule == b.Rule && a.Off == b.Off
}

// all returns the rows of a table.
func all(t api.StepTable) []int {
	var rows []int
	for row := range t.Values {
		rows = append(rows, row)
	}
	return rows
}

// figureOf returns the figure of a row in a truth.
func figureOf(t api.StepTable, kept, truth []int, row int) int {
	before, after := row, row
	for !slices.Contains(kept, before) {
		before--
	}
	for !slices.Contains(kept, after) {
		after++
	}
	if before == after {
		return truth[row]
	}
	sum := 0
	for at := before; at < after; at++ {
		if at < row {
			sum += truth[after]
		} else {
			sum += truth[before]
		}
	}
	return trial.Units(sum, after-before, t.Rule)
}

func figuresOf(t api.StepTable, kept, truth []int) []int {
	var out []int
	for row := range truth {
		out = append(out, figureOf(t, kept, truth, row))
	}
	return out
}

// offsOf returns by how much the figure of each row differs from its number in a truth.
func offsOf(t api.StepTable, kept, truth []int) []int {
	var out []int
	for row, figure := range figuresOf(t, kept, truth) {
		out = append(out, trial.Distance(figure, truth[row]))
	}
	return out
}

func isRightIn(t api.StepTable, kept, truth []int) bool {
	return slices.Max(offsOf(t, kept, truth)) <= t.Off
}

// truthsOf returns all truths, in lexicographic order.
func truthsOf(t api.StepTable) [][]int {
	truths := [][]int{nil}
	for _, v := range t.Values {
		var longer [][]int
		for _, begin := range truths {
			for n := v.Low; n <= v.High; n++ {
				longer = append(longer, append(slices.Clone(begin), n))
			}
		}
		truths = longer
	}
	return truths
}

// known is all that is told of a kept list.
type known struct {
	word   api.StepWord
	doubts []int
	proof  []int
	least  int
}

// knownOf returns what some truths tell of a kept list.
func knownOf(t api.StepTable, kept []int, truths [][]int) known {
	var k known
	right := 0
	offs := make([]int, len(t.Values))
	for _, truth := range truths {
		for row, off := range offsOf(t, kept, truth) {
			offs[row] = max(offs[row], off)
		}
		if isRightIn(t, kept, truth) {
			right++
		} else if k.proof == nil {
			k.proof = truth
		}
	}
	for row, off := range offs {
		if off > t.Off {
			k.doubts = append(k.doubts, row)
		}
	}
	k.least = slices.Max(offs)
	switch right {
	case 0:
		k.word = never
	case len(truths):
		k.word = surely
	default:
		k.word = may
	}
	return k
}

// keptListsOf returns all kept lists, in lexicographic order.
func keptListsOf(rows int) [][]int {
	var out [][]int
	for set := range 1 << (rows - 2) {
		kept := list(0)
		for row := 1; row < rows-1; row++ {
			if set>>(row-1)&1 == 1 {
				kept = append(kept, row)
			}
		}
		out = append(out, append(kept, rows-1))
	}
	slices.SortFunc(out, slices.Compare[[]int])
	return out
}

func isSureIn(t api.StepTable, kept []int, truths [][]int) bool {
	for _, truth := range truths {
		if !isRightIn(t, kept, truth) {
			return false
		}
	}
	return true
}

// sureListsOf returns all kept lists that surely are right.
func sureListsOf(t api.StepTable) [][]int {
	truths := truthsOf(t)
	var out [][]int
	for _, kept := range keptListsOf(len(t.Values)) {
		if isSureIn(t, kept, truths) {
			out = append(out, kept)
		}
	}
	return out
}

type dice struct{ trial.Dice }

// rule returns one of the rules.
func (d *dice) rule() api.RoundRule { return trial.Of(&d.Dice, trial.List(down, up, near, even)) }

// numbers returns numbers that grow like those of a table, or now and then any ones.
func (d *dice) numbers(rows int) []int {
	now, by, more := d.From(-50, 50), d.From(-20, 20), d.From(-3, 3)*d.From(0, 1)
	var out []int
	for range rows {
		out = append(out, now)
		now, by = now+by, by+more
	}
	switch d.From(0, 9) {
	case 0:
		for row := range out {
			out[row] = d.From(-5, 5)
		}
	case 1:
		out[d.From(0, rows-1)] += d.From(-30, 30)
	case 2:
		out[d.From(0, rows-1)] = d.From(-api.StepMost, api.StepMost)
	case 3:
		add(out, api.StepMost-slices.Max(out))
	case 4:
		add(out, -api.StepMost-slices.Min(out))
	}
	return out
}

func add(numbers []int, n int) {
	for i := range numbers {
		numbers[i] += n
	}
}

// tableWith returns a table with so many rows, and at most so many truths.
func (d *dice) tableWith(rows, truths int) api.StepTable {
	t := table(d.rule(), trial.Of(&d.Dice, list(0, 0, 1, 1, 2, 3, 5, 10, 100)), d.numbers(rows)...)
	many := 1
	for range 2 * rows {
		v := &t.Values[d.From(0, rows-1)]
		high := min(v.Low+d.From(0, api.StepWide), api.StepMost)
		if more := many / (v.High - v.Low + 1) * (high - v.Low + 1); more <= truths {
			v.High, many = high, more
		}
	}
	return t
}

// table returns a table without so many truths that they cannot be written out.
func (d *dice) table() api.StepTable {
	if d.From(0, 9) == 0 {
		return d.tableWith(d.From(8, api.StepRows), 4)
	}
	return d.tableWith(d.From(2, 7), 100)
}

// widest returns a table with as many truths as there are at random.
func (d *dice) widest() api.StepTable { return d.tableWith(d.From(2, api.StepRows), most) }

// kept returns a kept list.
func (d *dice) kept(t api.StepTable) []int {
	often := d.From(1, 4)
	return slices.DeleteFunc(all(t), func(row int) bool {
		return row > 0 && row < len(t.Values)-1 && d.From(0, often) > 0
	})
}

// truth returns a truth, now and then one at the ends of the spans.
func (d *dice) truth(t api.StepTable) []int {
	ends := d.From(0, 1) == 0
	var out []int
	for _, v := range t.Values {
		if ends {
			out = append(out, trial.Of(&d.Dice, list(v.Low, v.High)))
		} else {
			out = append(out, d.From(v.Low, v.High))
		}
	}
	return out
}

// tables calls f with the chapter's tables and with many others.
func tables(t *testing.T, many int, f func(t *testing.T, d *dice, x api.StepTable)) {
	t.Helper()
	d := &dice{}
	for _, x := range trial.List(tableA(), tableB(), tableOfText()) {
		f(t, d, x)
	}
	for range many {
		if x := d.table(); !t.Failed() {
			f(t, d, x)
		}
	}
}

// badTables are tables that are not as defined, each in one way.
func badTables() []api.StepTable {
	bad := trial.List(api.StepTable{}, table(down, 0), table(down, 0, 0), table(down, 0, make([]int, 14)...), table(down, 0, make([]int, 1000)...))
	for _, rule := range list(0, -1, 5, most, least) {
		bad = append(bad, table(api.RoundRule(rule), 0, 0, 0))
	}
	for _, off := range list(-1, 101, most, least) {
		bad = append(bad, table(down, off, 0, 0))
	}
	for _, v := range trial.List(span(1, 0), span(0, 5), span(9999, -9999), span(-9999, 9999), span(9999, 10000), span(10000, 10000), span(-10000, -9999), span(-10000, -10000), span(most, most), span(least, least), span(least, most), span(most, least), span(0, most), span(least, 0)) {
		ok := span(0, 0)
		bad = append(bad, withValues(table(down, 0), v, ok), withValues(table(down, 0), ok, v), withValues(table(down, 0), ok, v, ok))
	}
	return bad
}

// badKeptLists are lists of a table with seven rows that are no kept lists.
func badKeptLists() [][]int {
	return [][]int{nil, {}, {0}, {6}, {0, 2, 4}, {2, 4, 6}, {1, 6}, {0, 5}, {0, 7}, {-1, 6}, {-1, 0, 6}, {0, 6, 7}, {6, 0}, {0, 4, 2, 6}, {0, 2, 2, 6}, {0, 0, 6}, {0, 6, 6}, {0, -1, 6}, {0, 7, 6}, {0, most, 6}, {0, least, 6}, {0, most}, {least, 6}, {0, 1, 2, 3, 4, 5, 6, 0, 6}, make([]int, 1000)}
}

// badTruths are lists that are no truths of the chapter's table b.
func badTruths() [][]int {
	return [][]int{nil, {}, {0}, {0, 10, 40, 90, 160, 250}, {0, 10, 40, 90, 160, 250, 360, 0}, {-1, 10, 40, 90, 160, 250, 360}, {1, 10, 40, 90, 160, 250, 360}, {0, 10, 40, 89, 160, 250, 360}, {0, 10, 40, 92, 160, 250, 360}, {0, 10, 40, 90, 162, 250, 360}, {0, 10, 40, 90, 160, 250, 361}, {0, 10, 40, 90, 160, 250, most}, {least, 10, 40, 90, 160, 250, 360}, make([]int, 1000)}
}

// callsOf returns calls of all functions that have a table, each of which tells whether its result is zero.
func callsOf(t api.StepTable, kept, truth []int, by int) map[string]func() (bool, api.Errno) {
	calls := keptCallsOf(t, kept, truth)
	calls["Keep"] = func() (bool, api.Errno) { x, e := step.Keep(t, by); return len(x) == 0, e }
	calls["Widest"] = func() (bool, api.Errno) { x, e := step.Widest(t); return x == 0, e }
	calls["Fewest"] = func() (bool, api.Errno) { x, e := step.Fewest(t); return len(x) == 0, e }
	calls["Count"] = func() (bool, api.Errno) { x, e := step.Count(t); return x == 0, e }
	calls["Must"] = func() (bool, api.Errno) { x, e := step.Must(t); return len(x) == 0, e }
	calls["Print"] = func() (bool, api.Errno) { x, e := step.Print(t); return x == "", e }
	return calls
}

// keptCallsOf returns calls of all functions that have a kept list.
func keptCallsOf(t api.StepTable, kept, truth []int) map[string]func() (bool, api.Errno) {
	return map[string]func() (bool, api.Errno){
		"Figures": func() (bool, api.Errno) { x, e := step.Figures(t, kept, truth); return len(x) == 0, e },
		"Right":   func() (bool, api.Errno) { x, e := step.Right(t, kept, truth); return !x, e },
		"Word":    func() (bool, api.Errno) { x, e := step.Word(t, kept); return x == 0, e },
		"Doubts":  func() (bool, api.Errno) { x, e := step.Doubts(t, kept); return len(x) == 0, e },
		"Proof":   func() (bool, api.Errno) { x, e := step.Proof(t, kept); return len(x) == 0, e },
		"Least":   func() (bool, api.Errno) { x, e := step.Least(t, kept); return x == 0, e },
		"Add":     func() (bool, api.Errno) { x, y, e := step.Add(t, kept); return x == 0 && y == 0, e },
	}
}

// refused fails if a call is not refused with ErrArg and zero values beside it.
func refused(t *testing.T, calls map[string]func() (bool, api.Errno), what any) {
	t.Helper()
	for name, call := range calls {
		if zero, e := call(); !zero || e != api.ErrArg {
			t.Error(name, what, zero, e)
		}
	}
}

// TestBadTables checks that each function refuses each table that is not as defined (P5.1, P5.3 to P5.8, P0.12).
func TestBadTables(t *testing.T) {
	for i, x := range badTables() {
		if e := step.Check(x); e != api.ErrArg {
			t.Error(i, e)
		}
		kept := all(x)
		refused(t, callsOf(x, kept, make([]int, len(kept)), 1), fmt.Sprint("table ", i))
	}
}

// TestBadKeptLists checks that each function refuses what is no kept list (P5.1, P5.3, P5.4, P5.7, P0.12).
func TestBadKeptLists(t *testing.T) {
	for _, kept := range badKeptLists() {
		refused(t, keptCallsOf(tableA(), kept, truthT()), kept)
	}
}

// TestBadTruths checks that what is no truth is refused (P5.1).
func TestBadTruths(t *testing.T) {
	for _, truth := range badTruths() {
		calls := keptCallsOf(tableB(), keptK(), truth)
		refused(t, map[string]func() (bool, api.Errno){"Figures": calls["Figures"], "Right": calls["Right"]}, truth)
	}
}
