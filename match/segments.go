package match

import (
	"cmp"
	"math/bits"
	"slices"

	"harrier/api"
	"harrier/quant"
	"harrier/record"
)

// CheckSegment returns what is wrong with a segment.
func CheckSegment(s api.Segment) api.Errno {
	if !quant.IsName(s.Name) {
		return api.ErrName
	}
	if !within(len(s.Gates), 2, MaxGates) {
		return api.ErrSize
	}
	for _, g := range s.Gates {
		if !isOnPlane(g.A) || !isOnPlane(g.B) {
			return api.ErrRange
		}
		if g.A == g.B {
			return api.ErrForm
		}
	}
	return api.OK
}

// Turned returns the segment for the way back.
func Turned(s api.Segment) (api.Segment, api.Errno) {
	if e := CheckSegment(s); e != api.OK {
		return api.Segment{}, e
	}
	back := api.Segment{Name: s.Name}
	for _, g := range slices.Backward(s.Gates) {
		back.Gates = append(back.Gates, api.Gate{A: g.B, B: g.A})
	}
	return back, api.OK
}

// sideOf is above 0 if p is to the left of somebody who goes from one place to another one, below 0 to the right: at most 2^57 for places of the plane.
func sideOf(from, to, p api.Point) int {
	return (to.X-from.X)*(p.Y-from.Y) - (to.Y-from.Y)*(p.X-from.X)
}

// A passing is that a gate is crossed when part of the whole time of a step is gone.
type passing struct{ gate, part, whole int }

// passings returns how the step from p to q crosses gates, in the order of time.
func passings(gates []api.Gate, p, q api.Point) []passing {
	var list []passing
	for i, g := range gates {
		before, behind := sideOf(g.A, g.B, p), sideOf(g.A, g.B, q)
		if before < 0 && behind >= 0 && isMet(g, p, q) {
			list = append(list, passing{i, -before, behind - before})
		}
	}
	// Stable, so that gates that are crossed at the same time stay in their order.
	slices.SortStableFunc(list, compareTimes)
	return list
}

// isMet reports whether the line through p and q meets a gate.
func isMet(g api.Gate, p, q api.Point) bool {
	a, b := sideOf(p, q, g.A), sideOf(p, q, g.B)
	return min(a, b) <= 0 && max(a, b) >= 0
}

// compareTimes compares passings of one step.
func compareTimes(x, y passing) int {
	// The products can be beyond an int.
	high, low := bits.Mul64(uint64(x.part), uint64(y.whole))
	otherHigh, otherLow := bits.Mul64(uint64(y.part), uint64(x.whole))
	return cmp.Or(cmp.Compare(high, otherHigh), cmp.Compare(low, otherLow))
}

// Crossings returns where an activity crosses gates of a segment from the right to the left.
func Crossings(s api.Segment, a api.Activity) ([]api.Crossing, api.Errno) {
	if e := CheckSegment(s); e != api.OK {
		return nil, e
	}
	if e := record.Check(a); e != api.OK {
		return nil, e
	}
	var list []api.Crossing
	for i := 1; i < len(a.Samples); i++ {
		p, q := a.Samples[i-1], a.Samples[i]
		for _, x := range passings(s.Gates, placeOf(p), placeOf(q)) {
			behind, _ := quant.Scale(x.part, 1000*(q.At-p.At), x.whole, quant.Down)
			list = append(list, api.Crossing{Gate: x.gate, Step: i - 1, At: 1000*p.At + behind})
		}
	}
	return list, api.OK
}

// Efforts returns how an activity went through all gates of a segment, one after the other, each time that it did.
func Efforts(s api.Segment, a api.Activity) ([]api.Effort, api.Errno) {
	crossings, e := Crossings(s, a)
	if e != api.OK {
		return nil, e
	}
	var list []api.Effort
	var at []int // of the gates of the effort that is begun
	for _, x := range crossings {
		if x.Gate == 0 {
			at = []int{x.At}
		} else if x.Gate == len(at) {
			at = append(at, x.At)
		}
		if len(at) == len(s.Gates) {
			list = append(list, api.Effort{At: at})
			at = nil
		}
	}
	return list, api.OK
}

// Best returns the effort that took the least time, if there is one.
func Best(s api.Segment, a api.Activity) (api.Effort, bool, api.Errno) {
	list, e := Efforts(s, a)
	if len(list) == 0 {
		return api.Effort{}, false, e
	}
	best := slices.MinFunc(list, func(x, y api.Effort) int { return cmp.Compare(timeOf(x), timeOf(y)) })
	return best, true, api.OK
}

func timeOf(x api.Effort) int { return x.At[len(x.At)-1] - x.At[0] }
