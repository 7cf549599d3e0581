package load_test

import (
	"fmt"
	"math/rand"
	"slices"
	"testing"

	"harrier/api"
	"harrier/load"
)

const maxState = load.MaxLoad * load.Unit

func TestF3Step(t *testing.T) {
	for _, c := range []struct{ state, load, constant, want int }{
		{1000, 0, 42, 976}, {0, 42, 42, 1000}, {0, 43, 42, 1023}, {976, 0, 42, 952}, {1000, 1, 42, 1000}, {999, 1, 42, 999}, {1001, 1, 42, 1000},
		{5, 0, 1, 0}, {5, 7, 1, 7000}, {1, 0, 1000, 0}, {0, 0, 1000, 0}, {0, 0, 1, 0},
		{maxState, load.MaxLoad, 1000, maxState}, {maxState, 0, 1000, maxState - 10000}, {0, load.MaxLoad, 1000, 10000}, {maxState, 0, 1, 0}, {0, load.MaxLoad, 1, maxState},
	} {
		n, e := load.Step(c.state, c.load, c.constant)
		want(t, fmt.Sprint("Step ", c.state, c.load, c.constant), told(n, e), told(c.want, 0))
	}
	runRanges(t, []rangeCase{
		{"state", 0, 10000000, func(n int) api.Errno { _, e := load.Step(n, 5, 5); return e }},
		{"load", 0, 10000, func(n int) api.Errno { _, e := load.Step(5, n, 5); return e }},
		{"constant", 1, 1000, func(n int) api.Errno { _, e := load.Step(5, 5, n); return e }},
	})
}

// stepped does a step with a division that is rounded down.
func stepped(state, n, constant int) int {
	part := floored(number(n*1000-state), number(constant))
	return state + int(part.Int64())
}

// someState makes a state, a load and a constant, some of them at their limits.
func someState(r *rand.Rand) (state, n, constant int) {
	most := []int{0, 3, 2000, maxState}[r.Intn(4)]
	return r.Intn(most + 1), r.Intn([]int{1, 4, load.MaxLoad + 1}[r.Intn(3)]), 1 + r.Intn([]int{1, 10, load.MaxConst}[r.Intn(3)])
}

func TestF3ExactStep(t *testing.T) {
	r := rand.New(rand.NewSource(5))
	for range 20000 {
		state, n, constant := someState(r)
		got, e := load.Step(state, n, constant)
		want(t, fmt.Sprint("Step ", state, n, constant), told(got, e), told(stepped(state, n, constant), 0))
		if got < 0 || got > maxState {
			t.Error("Step ", state, n, constant, " is no state: ", got)
		}
	}
}

// someLoads makes a row of loads.
func someLoads(r *rand.Rand, most int) []int {
	l := make([]int, r.Intn(most+1))
	for i := range l {
		_, l[i], _ = someState(r)
	}
	return l
}

func TestF3Series(t *testing.T) {
	const most = load.MaxDays
	for _, c := range []struct {
		loads           []int
		constant, first int
		want            string
	}{
		{[]int{43, 0}, 42, 1000, "[2000 1952] 0"}, {nil, 42, 1000, "[] 0"}, {[]int{7, 8, 0}, 1, 55, "[7000 8000 0] 0"},
		{nil, 0, 1000, "[] 9"}, {nil, 1001, 1000, "[] 9"}, {nil, 42, -1, "[] 9"}, {nil, 42, maxState + 1, "[] 9"},
		{[]int{-1, 5}, 42, 5, "[] 9"}, {[]int{5, 10001}, 42, 5, "[] 9"}, {[]int{5, 5}, 0, 5, "[] 9"}, {[]int{5, 5}, 42, -1, "[] 9"},
		{make([]int, most+1), 0, -1, "[] 3"}, {same(most+1, -1), 42, 5, "[] 3"}, {make([]int, most), 42, 0, told(make([]int, most), 0)},
	} {
		l, e := load.Series(c.loads, c.constant, c.first)
		want(t, fmt.Sprint("Series ", c.loads, c.constant, c.first), told(l, e), c.want)
	}
	runRanges(t, []rangeCase{
		{"a load", 0, 10000, func(n int) api.Errno { _, e := load.Series([]int{5, n, 5}, 5, 5); return e }},
		{"constant", 1, 1000, func(n int) api.Errno { _, e := load.Series([]int{5}, n, 5); return e }},
		{"constant without loads", 1, 1000, func(n int) api.Errno { _, e := load.Series(nil, n, 5); return e }},
		{"first", 0, 10000000, func(n int) api.Errno { _, e := load.Series([]int{5}, 5, n); return e }},
		{"first without loads", 0, 10000000, func(n int) api.Errno { _, e := load.Series(nil, 5, n); return e }},
	})
}

// seriesOf does the steps of a row of loads.
func seriesOf(loads []int, constant, state int) []int {
	list := []int{}
	for _, n := range loads {
		state = stepped(state, n, constant)
		list = append(list, state)
	}
	return list
}

func TestF3EachDay(t *testing.T) {
	r := rand.New(rand.NewSource(6))
	for range 1000 {
		first, _, constant := someState(r)
		loads := someLoads(r, 60)
		wanted := seriesOf(loads, constant, first)
		l, e := load.Series(loads, constant, first)
		want(t, fmt.Sprint("Series ", loads, constant, first), told(l, e), told(wanted, 0))
		peak, code := 0, api.OK
		for i, n := range wanted {
			if n > wanted[peak] {
				peak = i
			}
		}
		if len(loads) == 0 {
			code = api.ErrEmpty
		}
		n, e := load.Peak(loads, constant, first)
		want(t, fmt.Sprint("Peak ", loads, constant, first), told(n, e), told(peak, code))
	}
}

// TestF3MoreLoad: more load on a day makes no state less.
func TestF3MoreLoad(t *testing.T) {
	r := rand.New(rand.NewSource(7))
	for range 1000 {
		first, _, constant := someState(r)
		loads := append(someLoads(r, 60), r.Intn(load.MaxLoad))
		less, _ := load.Series(loads, constant, first)
		day := r.Intn(len(loads))
		loads[day] += r.Intn(load.MaxLoad + 1 - loads[day])
		more, e := load.Series(loads, constant, first)
		if e != api.OK || !slices.Equal(less[:day], more[:day]) {
			t.Fatal("Series ", loads, constant, first, ": ", more, e)
		}
		for i := range more {
			if more[i] < less[i] {
				t.Error("Series ", loads, constant, first, " is less on day ", i)
			}
		}
	}
}

func TestF3Needed(t *testing.T) {
	for _, c := range []struct {
		first, constant, days, aim int
		want                       string
	}{
		{0, 2, 1, 1000, "2 true 0"}, {0, 2, 1, 1001, "3 true 0"}, {0, 2, 1, 999, "2 true 0"}, {0, 42, 1, 1, "1 true 0"}, {0, 42, 1, 0, "0 true 0"},
		{0, 2, 2, 1500, "2 true 0"}, {0, 2, 2, 1501, "3 true 0"},
		{1000, 42, 0, 1000, "0 true 0"}, {1000, 42, 0, 1001, "0 false 0"}, {1000, 42, 1, 976, "0 true 0"}, {1000, 42, 1, 977, "1 true 0"}, {1000, 42, 1, 1000, "1 true 0"},
		{0, 1, 1, maxState, "10000 true 0"}, {0, 1, 1, maxState - 999, "10000 true 0"}, {0, 1, 1, maxState - 1000, "9999 true 0"}, {0, 2, 1, maxState, "0 false 0"}, {0, 2, 1, maxState / 2, "10000 true 0"}, {0, 2, 1, maxState/2 + 1, "0 false 0"},
		{maxState, 1000, load.MaxDays, maxState, "10000 true 0"}, {0, 1000, load.MaxDays, 0, "0 true 0"}, {maxState, 1000, 1, maxState - 10000, "0 true 0"},
	} {
		n, ok, e := load.Needed(c.first, c.constant, c.days, c.aim)
		want(t, fmt.Sprint("Needed ", c.first, c.constant, c.days, c.aim), told(n, ok, e), c.want)
	}
	runRanges(t, []rangeCase{
		{"first", 0, 10000000, func(n int) api.Errno { _, _, e := load.Needed(n, 5, 5, 5); return e }},
		{"constant", 1, 1000, func(n int) api.Errno { _, _, e := load.Needed(5, n, 5, 5); return e }},
		{"days", 0, 5000, func(n int) api.Errno { _, _, e := load.Needed(5, 5, n, 5); return e }},
		{"aim", 0, 10000000, func(n int) api.Errno { _, _, e := load.Needed(5, 5, 5, n); return e }},
	})
}

// TestF3EachLoad tries all loads.
func TestF3EachLoad(t *testing.T) {
	r := rand.New(rand.NewSource(8))
	for range 60 {
		first, _, constant := someState(r)
		aim, _, _ := someState(r)
		days := r.Intn(10)
		wanted := told(0, false, 0)
		for n := range load.MaxLoad + 1 {
			if l := append([]int{first}, seriesOf(same(days, n), constant, first)...); l[days] >= aim {
				wanted = told(n, true, 0)
				break
			}
		}
		n, ok, e := load.Needed(first, constant, days, aim)
		want(t, fmt.Sprint("Needed ", first, constant, days, aim), told(n, ok, e), wanted)
	}
}

func TestF3Peak(t *testing.T) {
	for _, c := range []struct {
		loads           []int
		constant, first int
		want            string
	}{
		{[]int{5}, 42, 0, "0 0"}, {[]int{5, 50, 0, 60, 0}, 7, 0, "3 0"}, {[]int{0, 0}, 7, 0, "0 0"}, {[]int{0, 0}, 7, 100, "0 0"}, {[]int{1, 9, 9, 5}, 1, 0, "1 0"}, {[]int{9, 5, 9}, 1, 0, "0 0"},
		{nil, 42, 0, "0 13"}, {nil, 0, 0, "0 9"}, {nil, 42, -1, "0 9"}, {[]int{-1}, 42, 0, "0 9"}, {make([]int, load.MaxDays+1), 42, 0, "0 3"}, {make([]int, load.MaxDays+1), 0, 0, "0 3"},
		{rising(1, load.MaxDays), 42, 0, "4999 0"},
	} {
		n, e := load.Peak(c.loads, c.constant, c.first)
		want(t, fmt.Sprint("Peak ", c.loads, c.constant, c.first), told(n, e), c.want)
	}
}
