package differ

import (
	"slices"

	"ephemerist/api"
	"ephemerist/reckon"
)

// Printed returns between which printed figures each row lies.
func Printed(p api.DifferPlan) ([]api.Span, api.Errno) {
	spans, e := Rows(p)
	if e != api.OK {
		return nil, e
	}
	for row, s := range spans {
		spans[row] = api.Span{Low: figure(s.Low, p.Guard), High: figure(s.High, p.Guard)}
	}
	return spans, api.OK
}

// Sure returns all rows that are sure.
func Sure(p api.DifferPlan) ([]int, api.Errno) {
	figures, e := Printed(p)
	if e != api.OK {
		return nil, e
	}
	var rows []int
	for row, f := range figures {
		if isSure(f) {
			rows = append(rows, row)
		}
	}
	return rows, api.OK
}

// Doubt returns the first row that is not sure.
func Doubt(p api.DifferPlan) (row int, e api.Errno) {
	figures, e := Printed(p)
	if e != api.OK {
		return 0, e
	}
	defer func() {
		if d, ok := recover().(doubt); ok {
			row, e = d.row, api.OK
		}
	}()
	mustBeSure(figures)
	return 0, api.ErrNone
}

// Widest returns how great a start can be.
func Widest(p api.DifferPlan, start int) (int, api.Errno) {
	if !isPlan(p) || !reckon.Within(start, 0, len(p.Starts)-1) {
		return 0, api.ErrArg
	}
	low := p.Starts[start].Low
	widest, e := 0, api.ErrNone
search:
	for high := low; high <= min(low+api.DifferWide, api.DifferMost); high++ {
		figures, _ := Printed(withHigh(p, start, high))
		for _, f := range figures {
			// A row that is not sure stays so when the start grows wider.
			if !isSure(f) {
				break search
			}
		}
		widest, e = high, api.OK
	}
	return widest, e
}

// Blame returns the start that makes a row differ most.
func Blame(p api.DifferPlan, row int) (int, api.Errno) {
	if !isPlan(p) || !isRow(p, row) {
		return 0, api.ErrArg
	}
	shares := make([]share, len(p.Starts))
	widths := make([]int, len(p.Starts))
	for start, s := range p.Starts {
		widths[start] = (s.High - s.Low) * growth(len(p.Starts), start, row)
		shares[start] = share{start, widths[start]}
	}
	if reckon.Sum(widths...) == 0 {
		return 0, api.ErrNone
	}
	most := reckon.Best(shares, func(a, b share) bool { return a.width > b.width })
	return most.start, api.OK
}

// share is how much of the width of a row comes from a start.
type share struct {
	start int
	width int
}

// doubt is what a row that is not sure gives up with.
type doubt struct{ row int }

// mustBeSure gives up at the first row that is not sure.
func mustBeSure(figures []api.Span) {
	for row := range len(figures) {
		if !isSure(figures[row]) {
			panic(doubt{row})
		}
	}
}

func isSure(figures api.Span) bool { return figures.Low == figures.High }

// figure returns the printed figure of a value.
func figure(value, guard int) int {
	unit := 1
	for range guard {
		unit *= 10
	}
	return reckon.Quotient(value+unit/2, unit)
}

// withHigh returns a plan with another end of one start.
func withHigh(p api.DifferPlan, start, high int) api.DifferPlan {
	p.Starts = slices.Clone(p.Starts)
	p.Starts[start].High = high
	return p
}

// growth returns by how much the value of a row grows when one number of the
// truth is greater by 1: additions being linear, this is the row's value in a
// truth that has this 1 alone.
func growth(starts, start, row int) int {
	truth := make([]int, starts)
	truth[start] = 1
	return down(truth, row)[0]
}
