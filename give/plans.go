package give

import (
	"iter"
	"slices"

	"ephemerist/api"
	"ephemerist/reckon"
)

// First returns the first plan by which all tables surely are back when they are due.
func First(b api.GiveBook) ([]api.GiveTask, api.Errno) {
	if !isBook(b) {
		return nil, api.ErrArg
	}
	for plan := range surePlans(b) {
		return plan, api.OK
	}
	return nil, api.ErrNone
}

// Count returns how many such plans there are.
func Count(b api.GiveBook) (int, api.Errno) {
	if !isBook(b) {
		return 0, api.ErrArg
	}
	many := 0
	for range surePlans(b) {
		many++
	}
	return many, api.OK
}

// Best returns the plan by which all sheets are back soonest, and the day.
func Best(b api.GiveBook) ([]api.GiveTask, int, api.Errno) {
	if !isBook(b) {
		return nil, 0, api.ErrArg
	}
	best, e := soonest(b)
	return best.plan, best.day, e
}

// Who returns to whom a sheet can be given.
func Who(b api.GiveBook, sheet int) ([]int, api.Errno) {
	if !isBook(b) || !isSheet(b, sheet) {
		return nil, api.ErrArg
	}
	var hands []int
search:
	for computer := range len(b.Computers) {
		for plan := range surePlans(b) {
			if isHand(plan[sheet], computer) {
				hands = append(hands, computer)
				continue search
			}
		}
	}
	return hands, api.OK
}

// More returns on which day all sheets are back with one computer more.
func More(b api.GiveBook, like int) (int, api.Errno) {
	switch {
	case !isBook(b) || !isComputer(b, like):
		return 0, api.ErrArg
	case len(b.Computers) == api.GiveComputers:
		return 0, api.ErrLong
	}
	b.Computers = slices.Concat(b.Computers, b.Computers[like:like+1])
	best, e := soonest(b)
	return best.day, e
}

// datedPlan is a plan with the day on which the last sheet is back, if all takes
// as long as it can.
type datedPlan struct {
	plan []api.GiveTask
	day  int
}

// soonest returns the first of the good plans by which the last sheet is back
// soonest.
func soonest(b api.GiveBook) (datedPlan, api.Errno) {
	_, longest := truthsOf(b)
	var plans []datedPlan
	for plan := range goodPlans(b) {
		days := bookWithPlan{b, plan}.when(longest)
		plans = append(plans, datedPlan{plan, last(days...)})
	}
	if len(plans) == 0 {
		return datedPlan{}, api.ErrNone
	}
	return reckon.Best(plans, func(a, b datedPlan) bool { return a.day < b.day }), api.OK
}

// surePlans goes through all plans by which all tables surely are back, in
// lexicographic order.
func surePlans(b api.GiveBook) iter.Seq[[]api.GiveTask] {
	return func(yield func([]api.GiveTask) bool) {
		for plan := range goodPlans(b) {
			if (bookWithPlan{b, plan}).isSure() && !yield(plan) {
				return
			}
		}
	}
}

// goodPlans goes through all good plans, in lexicographic order.
func goodPlans(b api.GiveBook) iter.Seq[[]api.GiveTask] {
	return func(yield func([]api.GiveTask) bool) {
		tasks := goodTasks(b)
		var fill func(plan []api.GiveTask) bool
		fill = func(plan []api.GiveTask) bool {
			if len(plan) == len(b.Sheets) {
				return yield(plan)
			}
			for _, task := range tasks {
				if !fill(slices.Concat(plan, []api.GiveTask{task})) {
					return false
				}
			}
			return true
		}
		fill(nil)
	}
}

// goodTasks returns all tasks without a fault, in lexicographic order.
func goodTasks(b api.GiveBook) []api.GiveTask {
	var tasks []api.GiveTask
	computers := len(b.Computers)
	for one := range computers {
		for other := range computers {
			for third := range computers {
				task := api.GiveTask{One: one, Other: other, Third: third}
				if (bookWithPlan{b, []api.GiveTask{task}}).isGood() {
					tasks = append(tasks, task)
				}
			}
		}
	}
	return tasks
}
