package load

import (
	"slices"
	"sort"

	"harrier/api"
)

func isState(n int) bool { return within(n, 0, MaxLoad*Unit) }

func isConstant(n int) bool { return within(n, 1, MaxConst) }

func isLoad(n int) bool { return within(n, 0, MaxLoad) }

// Step returns the state behind a day with a load.
func Step(state, load, constant int) (int, api.Errno) {
	if !isState(state) || !isLoad(load) || !isConstant(constant) {
		return 0, api.ErrRange
	}
	return step(state, load, constant), api.OK
}

func step(state, load, constant int) int {
	// state + (load * Unit - state) / constant in one division: of what is never below 0, which Go's division would round up.
	return (state*(constant-1) + load*Unit) / constant
}

// Series returns the states behind each day of a row of loads.
func Series(loads []int, constant, first int) ([]int, api.Errno) {
	if len(loads) > MaxDays {
		return nil, api.ErrSize
	}
	if !isState(first) || !isConstant(constant) {
		return nil, api.ErrRange
	}
	list, state := make([]int, len(loads)), first
	for i, load := range loads {
		if !isLoad(load) {
			return nil, api.ErrRange
		}
		state = step(state, load, constant)
		list[i] = state
	}
	return list, api.OK
}

// Needed returns the least load of each of so many days behind which a state is reached.
func Needed(first, constant, days, aim int) (int, bool, api.Errno) {
	if !isState(first) || !isConstant(constant) || !within(days, 0, MaxDays) || !isState(aim) {
		return 0, false, api.ErrRange
	}
	// A search by halves, as more load never makes a state less.
	least := sort.Search(MaxLoad+1, func(load int) bool { return behind(days, first, load, constant) >= aim })
	if least > MaxLoad {
		return 0, false, api.OK
	}
	return least, true, api.OK
}

// behind returns the state behind so many days, all with the same load.
func behind(days, state, load, constant int) int {
	for range days {
		state = step(state, load, constant)
	}
	return state
}

// Peak returns the first day behind which the state is the greatest.
func Peak(loads []int, constant, first int) (int, api.Errno) {
	list, e := Series(loads, constant, first)
	if e != api.OK {
		return 0, e
	}
	if len(list) == 0 {
		return 0, api.ErrEmpty
	}
	return slices.Index(list, slices.Max(list)), api.OK
}
