package round_test

import (
	"fmt"
	"slices"
	"testing"

	"ephemerist/api"
	"ephemerist/round"
	"ephemerist/trial"
)

// This file has a second way to each result: all truths are written out.

const (
	down = api.RoundDown
	up   = api.RoundUp
	near = api.RoundNear
	even = api.RoundEven

	never  = api.RoundNever
	may    = api.RoundMay
	surely = api.RoundSurely

	most, least = 1<<63 - 1, -1 << 63
)

func list(n ...int) []int { return trial.List(n...) }

func span(low, high int) api.Span { return api.Span{Low: low, High: high} }

func spans(ends ...int) []api.Span { return trial.Spans(ends...) }

func sheet(unit int, rule api.RoundRule, errs []int, rows ...int) api.RoundSheet {
	return api.RoundSheet{Unit: unit, Rule: rule, Errs: errs, Rows: rows}
}

// sheetA is the sheet of the chapter.
func sheetA() api.RoundSheet { return sheet(10, near, list(4, 1, 0), 13, 26, 44) }

// sheetOfText returns the sheet of the chapter's text.
func sheetOfText() api.RoundSheet { return sheet(1, down, list(0), 0) }

// widest returns a sheet with as many truths as can be.
func widest(unit int, rule api.RoundRule, rows ...int) api.RoundSheet {
	return sheet(unit, rule, list(8, 8, 8, 8, 8), rows...)
}

func sameSheet(a, b api.RoundSheet) bool {
	return a.Unit == b.Unit && a.Rule == b.Rule && slices.Equal(a.Errs, b.Errs) && slices.Equal(a.Rows, b.Rows)
}

func withRows(s api.RoundSheet, rows []int) api.RoundSheet {
	s.Rows = rows
	return s
}

// truth is exact numbers with their figures and their total.
type truth struct {
	exact   []int
	figures []int
	total   int
}

func (x truth) adds() int {
	adds := 0
	for _, f := range x.figures {
		adds += f
	}
	return adds
}

func (x truth) differs() int { return x.adds() - x.total }

// truthsOf returns all truths, in lexicographic order.
func truthsOf(s api.RoundSheet, guard int) []truth {
	all := [][]int{nil}
	for _, n := range s.Rows {
		var longer [][]int
		for _, begin := range all {
			for exact := n - s.Errs[guard]; exact <= n+s.Errs[guard]; exact++ {
				longer = append(longer, append(slices.Clone(begin), exact))
			}
		}
		all = longer
	}
	var truths []truth
	for _, exact := range all {
		x, sum := truth{exact: exact}, 0
		for _, n := range exact {
			sum += n
			x.figures = append(x.figures, trial.Units(n, s.Unit, s.Rule))
		}
		x.total = trial.Units(sum, s.Unit, s.Rule)
		truths = append(truths, x)
	}
	return truths
}

// rangeOf returns the least and the greatest of a number in some truths.
func rangeOf(truths []truth, number func(truth) int) api.Span {
	out := span(number(truths[0]), number(truths[0]))
	for _, x := range truths {
		out = span(min(out.Low, number(x)), max(out.High, number(x)))
	}
	return out
}

// rangesOf returns the least and the greatest number of each row in some truths.
func rangesOf(truths []truth, numbers func(truth) []int) []api.Span {
	var out []api.Span
	for row := range truths[0].exact {
		out = append(out, rangeOf(truths, func(x truth) int { return numbers(x)[row] }))
	}
	return out
}

func exactOf(x truth) []int { return x.exact }

func figuresOf(x truth) []int { return x.figures }

// wordOf returns whether a row has a figure in some, or all, of some truths.
func wordOf(truths []truth, row, figure int) api.RoundWord {
	many := 0
	for _, x := range truths {
		if x.figures[row] == figure {
			many++
		}
	}
	switch many {
	case 0:
		return never
	case len(truths):
		return surely
	}
	return may
}

func sureOf(truths []truth) []int {
	var out []int
	for row, f := range truths[0].figures {
		if wordOf(truths, row, f) == surely {
			out = append(out, row)
		}
	}
	return out
}

// failureOf returns the first truth in which the total fails.
func failureOf(truths []truth) []int {
	for _, x := range truths {
		if x.differs() != 0 {
			return x.exact
		}
	}
	return nil
}

// firstOf returns the first row with which a total fails, or -1.
func firstOf(s api.RoundSheet, guard int) int {
	for row := range s.Rows {
		if failureOf(truthsOf(withRows(s, s.Rows[:row+1]), guard)) != nil {
			return row
		}
	}
	return -1
}

// behindOf returns the least and the greatest exact numbers of truths with some figures and a total, none if there is no such truth.
func behindOf(truths []truth, figures []int, total int) []api.Span {
	var some []truth
	for _, x := range truths {
		if slices.Equal(x.figures, figures) && x.total == total {
			some = append(some, x)
		}
	}
	if len(some) == 0 {
		return nil
	}
	return rangesOf(some, exactOf)
}

type dice struct{ trial.Dice }

// errs returns Errs of which none is greater than a number.
func (d *dice) errs(most int) []int {
	var errs []int
	for range d.From(1, api.RoundGuards) {
		most = d.From(0, most)
		errs = append(errs, most)
	}
	return errs
}

// sheet returns a sheet without so many truths that they cannot be written out.
func (d *dice) sheet() api.RoundSheet {
	rows := d.From(1, api.RoundRows)
	errs := d.errs(list(8, 8, 8, 7, 3, 2)[rows])
	s := sheet(trial.Of(&d.Dice, list(1, 2, 3, 4, 5, 6, 7, 8, 10, 15, 16, 20, 100, 999, 1000)), down+api.RoundRule(d.From(0, 3)), errs)
	for range rows {
		s.Rows = append(s.Rows, d.number(s.Unit))
	}
	return s
}

// number returns a number of a row: one near a whole or a half number of units, or any one.
func (d *dice) number(unit int) int {
	n := d.From(-20, 20)*unit/2 + d.From(-3, 3)
	switch d.From(0, 9) {
	case 0:
		n = d.From(-api.RoundMost, api.RoundMost)
	case 1:
		n = api.RoundMost * (2*d.From(0, 1) - 1)
	}
	return n
}

// sheets calls f with the chapter's sheets and with many others.
func sheets(t *testing.T, many int, f func(t *testing.T, d *dice, s api.RoundSheet)) {
	t.Helper()
	d := &dice{}
	for _, s := range trial.List(sheetA(), sheetOfText()) {
		f(t, d, s)
	}
	for range many {
		if s := d.sheet(); !t.Failed() {
			f(t, d, s)
		}
	}
}

// truths calls f with sheets, each number of their guard figures, and all truths.
func truths(t *testing.T, many int, f func(t *testing.T, s api.RoundSheet, guard int, all []truth)) {
	t.Helper()
	sheets(t, many, func(t *testing.T, _ *dice, s api.RoundSheet) {
		for guard := range s.Errs {
			f(t, s, guard, truthsOf(s, guard))
		}
	})
}

// badSheets are sheets that are not as defined, each in one way.
func badSheets() []api.RoundSheet {
	errs := list(0)
	bad := trial.List(
		api.RoundSheet{}, sheet(1, down, nil, 0), sheet(1, down, list(0, 0, 0, 0, 0, 0), 0), sheet(1, down, make([]int, 1000), 0), sheet(1, down, errs), sheet(1, down, errs, 0, 0, 0, 0, 0, 0), sheet(1, down, errs, make([]int, 1000)...),
		sheet(1, down, list(1, 2), 0), sheet(1, down, list(3, 2, 2, 3), 0), sheet(1, down, list(0, 8), 0), sheet(1, down, list(8, 9), 0), sheet(1, down, list(9, 8), 0), sheet(1, down, list(1, 0, -1), 0),
	)
	for _, n := range list(0, -1, 1001, most, least) {
		bad = append(bad, sheet(n, down, errs, 0))
	}
	for _, n := range list(0, -1, 5, most, least) {
		bad = append(bad, sheet(1, api.RoundRule(n), errs, 0))
	}
	for _, n := range list(9, -1, most, least) {
		bad = append(bad, sheet(1, down, list(n), 0))
	}
	for _, n := range list(100001, -100001, most, least) {
		bad = append(bad, sheet(1, down, errs, n), sheet(1, down, errs, 0, n, 0), sheet(1, down, errs, 0, 0, 0, 0, n))
	}
	return bad
}

// callsOf returns calls of all functions that have a sheet, each of which tells whether its result is zero.
func callsOf(s api.RoundSheet, guard, row, figure int) map[string]func() (bool, api.Errno) {
	calls := guardedCallsOf(s, guard)
	calls["Need"] = func() (bool, api.Errno) { x, e := round.Need(s, row); return x == 0, e }
	calls["Guards"] = func() (bool, api.Errno) { x, e := round.Guards(s); return x == 0, e }
	calls["Print"] = func() (bool, api.Errno) { x, e := round.Print(s); return x == "", e }
	calls["Word"] = func() (bool, api.Errno) { x, e := round.Word(s, guard, row, figure); return x == 0, e }
	calls["Behind of one figure"] = func() (bool, api.Errno) {
		x, e := round.Behind(s, guard, slices.Repeat(list(figure), len(s.Rows)), figure)
		return len(x) == 0, e
	}
	return calls
}

// guardedCallsOf returns calls of all functions that have a number of guard figures.
func guardedCallsOf(s api.RoundSheet, guard int) map[string]func() (bool, api.Errno) {
	figures := make([]int, len(s.Rows))
	return map[string]func() (bool, api.Errno){
		"Bounds":  func() (bool, api.Errno) { x, e := round.Bounds(s, guard); return len(x) == 0, e },
		"Figures": func() (bool, api.Errno) { x, e := round.Figures(s, guard); return len(x) == 0, e },
		"Word 0":  func() (bool, api.Errno) { x, e := round.Word(s, guard, 0, 0); return x == 0, e },
		"Sure":    func() (bool, api.Errno) { x, e := round.Sure(s, guard); return len(x) == 0, e },
		"Total":   func() (bool, api.Errno) { x, e := round.Total(s, guard); return x == span(0, 0), e },
		"Adds":    func() (bool, api.Errno) { x, e := round.Adds(s, guard); return x == span(0, 0), e },
		"Differs": func() (bool, api.Errno) { x, e := round.Differs(s, guard); return x == span(0, 0), e },
		"First":   func() (bool, api.Errno) { x, e := round.First(s, guard); return x == 0, e },
		"Proof":   func() (bool, api.Errno) { x, e := round.Proof(s, guard); return len(x) == 0, e },
		"Behind":  func() (bool, api.Errno) { x, e := round.Behind(s, guard, figures, 0); return len(x) == 0, e },
	}
}

// refused fails if a call is not refused with ErrArg and zero values beside it.
func refused(t *testing.T, calls map[string]func() (bool, api.Errno), what any) {
	t.Helper()
	for name, call := range calls {
		if zero, e := call(); !zero || e != api.ErrArg {
			t.Error(name, what, zero, e)
		}
	}
}

// TestBadSheets checks that each function refuses each sheet that is not as defined (P4.2 to P4.7, P0.12).
func TestBadSheets(t *testing.T) {
	for i, s := range badSheets() {
		if e := round.Check(s); e != api.ErrArg {
			t.Error(i, e)
		}
		refused(t, callsOf(s, 0, 0, 0), fmt.Sprint("sheet ", i))
	}
}

// TestBadGuards checks that each function refuses a number of guard figures that there is not (P4.2, P4.4 to P4.6).
func TestBadGuards(t *testing.T) {
	for _, s := range trial.List(sheetA(), sheetOfText()) {
		for _, guard := range list(-1, len(s.Errs), 5, most, least) {
			refused(t, guardedCallsOf(s, guard), guard)
		}
	}
}
