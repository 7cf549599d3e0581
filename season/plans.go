package season

import (
	"slices"

	"harrier/api"
)

// search tries all choices for the days, from the first one on, and looks at each state just once. add puts what comes of a choice, and of what the rest became behind it, to what came of the choices before it, and reports whether this is enough; end is what comes of a whole plan.
func search[T any](f *frame, end T, add func(sum T, day, choice int, rest T) (T, bool)) T {
	looked := map[state]T{}
	var try func(s state) T
	try = func(s state) T {
		day := int(s.day)
		if day == f.days {
			return end
		}
		if known, ok := looked[s]; ok {
			return known
		}
		var sum T
		for _, choice := range f.choices[day] {
			next, ok := f.step(s, choice)
			if !ok {
				continue
			}
			var enough bool
			if sum, enough = add(sum, day, choice, try(next)); enough {
				break
			}
		}
		looked[s] = sum
		return sum
	}
	return try(f.firstState())
}

// count returns how many plans there are.
func (f *frame) count() int {
	return search(f, 1, func(sum, _, _, rest int) (int, bool) { return sum + rest, false })
}

// hasPlan reports whether there is a plan.
func (f *frame) hasPlan() bool {
	return search(f, true, func(_ bool, _, _ int, rest bool) (bool, bool) { return rest, rest })
}

// An outcome is the best plan of some, from a day on: the one with the fewest changes, then the greatest worth, then the least list. Without found there is none.
type outcome struct {
	found          bool
	changes, worth int
	plan           [MaxDays]int8
}

func (x outcome) isBetter(y outcome) bool {
	if !x.found || !y.found {
		return x.found
	}
	return x.changes < y.changes || x.changes == y.changes && x.worth > y.worth
}

// best returns the best plan; changed says which choices count as changes.
func (f *frame) best(changed func(day, choice int) bool) ([]int, bool) {
	x := search(f, outcome{found: true}, func(sum outcome, day, choice int, rest outcome) (outcome, bool) {
		if changed(day, choice) {
			rest.changes++
		}
		rest.worth += f.sessions[choice+1].Worth
		rest.plan[day] = int8(choice)
		if rest.isBetter(sum) { // of two that are as good the first one has the lesser choice
			return rest, false
		}
		return sum, false
	})
	if !x.found {
		return nil, false
	}
	var plan []int
	for _, choice := range x.plan[:f.days] {
		plan = append(plan, int(choice))
	}
	return plan, true
}

// Best returns the plan with the greatest worth.
func Best(s api.Season, done []int) ([]int, bool, api.Errno) {
	if e := checkDone(s, done); e != api.OK {
		return nil, false, e
	}
	plan, ok := newFrame(s, done).best(func(int, int) bool { return false })
	return plan, ok, api.OK
}

// Mend returns the plan that differs the least from another one.
func Mend(s api.Season, plan, done []int) ([]int, bool, api.Errno) {
	if e := checkPlan(s, plan); e != api.OK {
		return nil, false, e
	}
	if e := checkDone(s, done); e != api.OK {
		return nil, false, e
	}
	mended, ok := newFrame(s, done).best(func(day, choice int) bool { return day >= len(done) && choice != plan[day] })
	return mended, ok, api.OK
}

// Count returns how many plans there are.
func Count(s api.Season, done []int) (int, api.Errno) {
	if e := checkDone(s, done); e != api.OK {
		return 0, e
	}
	return newFrame(s, done).count(), api.OK
}

// Reason returns rules that leave no plan, and none of which could be left out.
func Reason(s api.Season, done []int) ([]int, bool, api.Errno) {
	if e := checkDone(s, done); e != api.OK {
		return nil, false, e
	}
	if newFrame(s, done).hasPlan() {
		return nil, false, api.OK
	}
	left := numbersOf(s)
	for r := range s.Rules {
		fewer := without(left, r)
		if !newFrame(withRules(s, fewer), done).hasPlan() {
			left = fewer
		}
	}
	return left, true, api.OK
}

// Idle returns the rules without each of which there are no more plans.
func Idle(s api.Season) ([]int, api.Errno) {
	if e := Check(s); e != api.OK {
		return nil, e
	}
	many := newFrame(s, nil).count()
	var l []int
	for r := range s.Rules {
		others := withRules(s, without(numbersOf(s), r))
		if newFrame(others, nil).count() == many {
			l = append(l, r)
		}
	}
	return l, api.OK
}

// numbersOf returns the numbers of all rules.
func numbersOf(s api.Season) []int {
	l := make([]int, len(s.Rules))
	for r := range l {
		l[r] = r
	}
	return l
}

func without(l []int, r int) []int {
	return slices.DeleteFunc(slices.Clone(l), func(n int) bool { return n == r })
}

// withRules returns a season with only the rules with these numbers.
func withRules(s api.Season, l []int) api.Season {
	var rules []api.Rule
	for _, r := range l {
		rules = append(rules, s.Rules[r])
	}
	s.Rules = rules
	return s
}
