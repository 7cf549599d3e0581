package load

import (
	"slices"

	"harrier/api"
	"harrier/effort"
)

const (
	maxLinePower = 1_000_000
	maxLineWork  = 1_000_000_000
	maxPercent   = 1_000
)

// CheckTests returns what is wrong with tests.
func CheckTests(l []api.Test) api.Errno {
	if len(l) > MaxTests {
		return api.ErrSize
	}
	for i, x := range l {
		if !within(x.Seconds, 1, MaxTest) || !within(x.Work, 0, MaxWork) {
			return api.ErrRange
		}
		if i > 0 && x.Seconds <= l[i-1].Seconds {
			return api.ErrOrder
		}
	}
	return api.OK
}

// Fit returns the line of work and power from which tests are off by the least squares.
func Fit(l []api.Test) (power, work api.Ratio, e api.Errno) {
	if e := CheckTests(l); e != api.OK {
		return api.Ratio{}, api.Ratio{}, e
	}
	if len(l) < 2 {
		return api.Ratio{}, api.Ratio{}, api.ErrEmpty
	}
	var seconds, works, squares, products int
	for _, x := range l {
		seconds += x.Seconds
		works += x.Work
		squares += x.Seconds * x.Seconds
		products += x.Seconds * x.Work
	}
	// No product of these is above 4 * 10^18; den is above 0, as the Seconds of two tests differ.
	den := len(l)*squares - seconds*seconds
	power = RatioOf(len(l)*products-seconds*works, den)
	work = RatioOf(works*squares-seconds*products, den)
	return power, work, api.OK
}

// RatioOf returns num / den in lowest terms; what is no ratio at all, if den is 0. It is not below 0.
func RatioOf(num, den int) api.Ratio {
	if den == 0 {
		return api.Ratio{}
	}
	part := commonPart(max(num, -num), den)
	return api.Ratio{Num: num / part, Den: den / part}
}

// commonPart returns the greatest number by which both can be divided.
func commonPart(a, b int) int {
	for b > 0 {
		a, b = b, a%b
	}
	return a
}

// Errors returns for each test what its Work is more than a line tells.
func Errors(l []api.Test, power, work int) ([]int, api.Errno) {
	if e := CheckTests(l); e != api.OK {
		return nil, e
	}
	if !within(power, 0, maxLinePower) || !within(work, 0, maxLineWork) {
		return nil, api.ErrRange
	}
	var list []int
	for _, x := range l {
		list = append(list, x.Work-(work+power*x.Seconds))
	}
	return list, api.OK
}

// Limits returns the limits of zones that are percents of a threshold.
func Limits(threshold int, percents []int) ([]int, api.Errno) {
	if !within(threshold, 1, maxPower) {
		return nil, api.ErrRange
	}
	if e := effort.CheckZones(percents); e != api.OK {
		return nil, e
	}
	if slices.ContainsFunc(percents, func(n int) bool { return n > maxPercent }) {
		return nil, api.ErrRange
	}
	var list []int
	for i, n := range percents {
		list = append(list, threshold*n/100)
		if i > 0 && list[i] <= list[i-1] {
			return nil, api.ErrOrder
		}
	}
	return list, api.OK
}
