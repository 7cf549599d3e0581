package match

import (
	"slices"

	"harrier/api"
	"harrier/quant"
	"harrier/track"
)

// Spaced returns n places of an activity that are as far from each other along the way.
func Spaced(a api.Activity, n int) ([]api.Point, api.Errno) {
	ways, e := track.Ways(a)
	if e != api.OK {
		return nil, e
	}
	if !within(n, 2, MaxRoute) {
		return nil, api.ErrRange
	}
	if len(ways) == 0 {
		return nil, api.ErrEmpty
	}
	long := ways[len(ways)-1]
	var list []api.Point
	for k := range n {
		list = append(list, placeAfter(a.Samples, ways, long*k/(n-1)))
	}
	return list, api.OK
}

// placeAfter returns where so far was gone; ways has for each sample how far was gone up to it.
func placeAfter(l []api.Sample, ways []int, gone int) api.Point {
	i, found := slices.BinarySearch(ways, gone)
	if found {
		return placeOf(l[i])
	}
	p, q := l[i-1], l[i]
	part, whole := gone-ways[i-1], ways[i]-ways[i-1]
	return api.Point{X: between(p.X, q.X, part, whole), Y: between(p.Y, q.Y, part, whole)}
}

// between returns the number that is part of whole on the way from p to q.
func between(p, q, part, whole int) int {
	more, _ := quant.Scale(q-p, part, whole, quant.Near)
	return p + more
}

// Apart returns the square of the least distance that two people who go along both lists need not exceed.
func Apart(a, b []api.Point) (int, api.Errno) {
	if e := checkRoutes(a, b); e != api.OK {
		return 0, e
	}
	var last, row []int // what need not be exceeded up to the place of a before this one, and up to this one, for each place of b
	for i, p := range a {
		last, row = row, make([]int, len(b))
		for j, q := range b {
			before := 0
			switch {
			case i > 0 && j > 0:
				before = min(last[j-1], last[j], row[j-1])
			case i > 0:
				before = last[j]
			case j > 0:
				before = row[j-1]
			}
			row[j] = max(before, square(p, q))
		}
	}
	return row[len(b)-1], api.OK
}

func checkRoutes(a, b []api.Point) api.Errno {
	if len(a) == 0 || len(b) == 0 {
		return api.ErrEmpty
	}
	if len(a) > MaxRoute || len(b) > MaxRoute {
		return api.ErrSize
	}
	for _, l := range [][]api.Point{a, b} {
		for _, p := range l {
			if !isOnPlane(p) {
				return api.ErrRange
			}
		}
	}
	return api.OK
}

// square returns the square of how far p is from q: below 2^57 for places of the plane.
func square(p, q api.Point) int {
	x, y := q.X-p.X, q.Y-p.Y
	return x*x + y*y
}
