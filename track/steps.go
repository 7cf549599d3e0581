package track

import (
	"iter"

	"harrier/api"
	"harrier/quant"
	"harrier/record"
)

// A step goes from the sample p, which has the number, to the next one, q.
type step struct {
	number int
	p, q   api.Sample
}

func (s step) seconds() int { return s.q.At - s.p.At }

func (s step) way() int {
	way, _ := quant.Root(square(s.p, s.q))
	return way
}

// square returns the sum of the squares of what X and Y change: below 2^57 for places of activities.
func square(p, q api.Sample) int {
	x, y := q.X-p.X, q.Y-p.Y
	return x*x + y*y
}

// steps yields the steps between samples, in their order.
func steps(l []api.Sample) iter.Seq[step] {
	return func(yield func(step) bool) {
		for i := 1; i < len(l); i++ {
			if !yield(step{i - 1, l[i-1], l[i]}) {
				return
			}
		}
	}
}

func within(n, low, high int) bool { return low <= n && n <= high }

func isOnPlane(p api.Sample) bool {
	return within(p.X, -api.MaxPlace, api.MaxPlace) && within(p.Y, -api.MaxPlace, api.MaxPlace)
}

// Step returns how far it is straight from p to q, on the plane.
func Step(p, q api.Sample) (int, api.Errno) {
	if !isOnPlane(p) || !isOnPlane(q) {
		return 0, api.ErrRange
	}
	return step{p: p, q: q}.way(), api.OK
}

// Ways returns for each sample how far was gone up to it.
func Ways(a api.Activity) ([]int, api.Errno) {
	if e := record.Check(a); e != api.OK {
		return nil, e
	}
	return waysOf(a.Samples), api.OK
}

func waysOf(l []api.Sample) []int {
	ways := make([]int, len(l))
	for s := range steps(l) {
		ways[s.number+1] = ways[s.number] + s.way()
	}
	return ways
}

// Splits returns when way, twice way and so on was gone.
func Splits(a api.Activity, way int) ([]api.Split, api.Errno) {
	if e := record.Check(a); e != api.OK {
		return nil, e
	}
	if !within(way, 1, MaxWay) {
		return nil, api.ErrRange
	}
	var list []api.Split
	gone, next := 0, way
	for s := range steps(a.Samples) {
		long := s.way()
		for ; next <= gone+long; next += way {
			if len(list) == MaxSplits {
				return nil, api.ErrSize
			}
			behind, _ := quant.Scale(next-gone, 1000*s.seconds(), long, quant.Up)
			list = append(list, api.Split{Way: next, At: 1000*s.p.At + behind})
		}
		gone += long
	}
	return list, api.OK
}
