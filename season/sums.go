package season

import (
	"slices"

	"harrier/api"
)

const maxDiff = 1_000 // numbers of a list for Diff

// Worth returns the worth of the sessions of a plan together.
func Worth(s api.Season, plan []int) (int, api.Errno) {
	if e := checkPlan(s, plan); e != api.OK {
		return 0, e
	}
	worth := 0
	for _, choice := range plan {
		worth += sessionOf(s, choice).Worth
	}
	return worth, api.OK
}

// Loads returns the load of each day.
func Loads(s api.Season, plan []int) ([]int, api.Errno) {
	if e := checkPlan(s, plan); e != api.OK {
		return nil, e
	}
	return loadsOf(s, plan), api.OK
}

func loadsOf(s api.Season, plan []int) []int {
	loads := make([]int, len(plan))
	for day, choice := range plan {
		loads[day] = sessionOf(s, choice).Load
	}
	return loads
}

// Weeks returns the load of each week.
func Weeks(s api.Season, plan []int) ([]int, api.Errno) {
	loads, e := Loads(s, plan)
	if e != api.OK {
		return nil, e
	}
	var l []int
	for _, x := range weeksOf(s) {
		l = append(l, sum(loads[x.from:x.to]))
	}
	return l, api.OK
}

func sum(l []int) int {
	n := 0
	for _, x := range l {
		n += x
	}
	return n
}

// Diff returns the days on which two lists differ.
func Diff(a, b []int) ([]api.Move, api.Errno) {
	if len(a) > maxDiff || len(b) > maxDiff {
		return nil, api.ErrSize
	}
	isWrong := func(n int) bool { return n < -1 }
	if slices.ContainsFunc(a, isWrong) || slices.ContainsFunc(b, isWrong) {
		return nil, api.ErrRange
	}
	var l []api.Move
	for day := range max(len(a), len(b)) {
		m := api.Move{Day: day, From: choiceOn(a, day), To: choiceOn(b, day)}
		if m.From != m.To {
			l = append(l, m)
		}
	}
	return l, api.OK
}

func choiceOn(l []int, day int) int {
	if day < len(l) {
		return l[day]
	}
	return -1
}
