package hands

import "ephemerist/api"

// miswritten is a row of a right column, in which another number was written.
type miswritten struct {
	right  []int
	row    int
	number int
}

func (m miswritten) turned() bool {
	n := m.right[m.row]
	return m.number == turn(n, 1) || m.number == turn(n, 10)
}

func (m miswritten) carry() bool {
	n := m.right[m.row]
	return m.number == lose(n, 10) || m.number == lose(n, 100)
}

func (m miswritten) sign() bool { return m.number == -m.right[m.row] }

func (m miswritten) line() bool {
	return m.row+1 < len(m.right) && m.number == m.right[m.row+1]
}

// kind returns the first kind by which the number was written, or 0.
func (m miswritten) kind() api.HandsKind {
	kinds := [...]func(miswritten) bool{
		api.HandsTurned - 1: miswritten.turned,
		api.HandsCarry - 1:  miswritten.carry,
		api.HandsSign - 1:   miswritten.sign,
		api.HandsLine - 1:   miswritten.line,
	}
	for i, is := range kinds {
		if is(m) {
			return api.HandsKind(i + 1)
		}
	}
	return 0
}

// turn exchanges the figure of a unit with the one before it.
func turn(n, unit int) int {
	// The figures of a number that is less than 0 are taken with its sign.
	last, first := n/unit%10, n/unit/10%10
	return n + (last-first)*9*unit
}

// lose makes the figure of a unit one less, if it is not 0.
func lose(n, unit int) int {
	switch figure := n / unit % 10; {
	case figure > 0:
		return n - unit
	case figure < 0:
		return n + unit
	}
	return n
}

// near returns all numbers for which a number can have been written, other
// than by a line that was skipped, and a few more.
func near(n int) []int {
	var numbers []int
	for _, m := range [...]int{n, -n, turn(n, 1), turn(n, 10), n - 100, n - 10, n + 10, n + 100} {
		if isNumber(m) {
			numbers = append(numbers, m)
		}
	}
	return numbers
}

// unexplained is what a row that no kind explains gives up with.
type unexplained struct{}

// errorsOf returns the errors by which a column was copied, or false if it was
// not.
func errorsOf(right, copied []int) (made []api.HandsError, is bool) {
	defer func() {
		if _, no := recover().(unexplained); no {
			made, is = nil, false
		}
	}()
	for row, n := range copied {
		if n != right[row] {
			made = append(made, errorOf(miswritten{right, row, n}))
		}
	}
	return made, true
}

func errorOf(m miswritten) api.HandsError {
	kind := m.kind()
	if kind == 0 {
		panic(unexplained{})
	}
	return api.HandsError{Row: m.row, Kind: kind}
}
