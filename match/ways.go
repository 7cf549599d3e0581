package match

import (
	"cmp"
	"iter"

	"harrier/api"
)

// A way goes straight between two places, and both belong to it; p is to the west of q, or, if neither is, not to the north.
type way struct{ p, q api.Point }

func wayBetween(p, q api.Point) way {
	if cmp.Or(cmp.Compare(p.X, q.X), cmp.Compare(p.Y, q.Y)) > 0 {
		p, q = q, p
	}
	return way{p, q}
}

// waysOf yields the ways of the steps between samples, and ahead of them one that has just the place of the first sample, as there can be no step.
func waysOf(l []api.Sample) iter.Seq[way] {
	return func(yield func(way) bool) {
		// Each way once: who goes to and fro is not followed each time.
		gone := map[way]bool{}
		for i, x := range l {
			w := wayBetween(placeOf(l[max(i-1, 0)]), placeOf(x))
			if gone[w] {
				continue
			}
			gone[w] = true
			if !yield(w) {
				return
			}
		}
	}
}

// tiles yields the tiles of a way, by X, then by Y.
func (w way) tiles(side int) iter.Seq[api.Tile] {
	return func(yield func(api.Tile) bool) {
		for x := floor(w.p.X, side); x <= floor(w.q.X, side); x++ {
			low, high := w.rows(x, side)
			for y := low; y <= high; y++ {
				if !yield(api.Tile{X: x, Y: y}) {
					return
				}
			}
		}
	}
}

// rows returns the least and the greatest Y of the tiles of a way that have this X.
func (w way) rows(x, side int) (low, high int) {
	east, north := w.q.X-w.p.X, w.q.Y-w.p.Y
	if east == 0 {
		return floor(w.p.Y, side), floor(w.q.Y, side)
	}
	border := (x + 1) * side
	// The Y at an X, in parts of which a tile has east * side: below 2^57, so that it is exact.
	height := func(x int) int { return w.p.Y*east + north*(x-w.p.X) }
	first, last := height(max(w.p.X, x*side)), height(min(w.q.X, border))
	if north < 0 {
		return floor(last, east*side), floor(first, east*side)
	}
	if north > 0 && w.q.X >= border {
		// Where it comes to the border it is in the next column already, so a row that begins there is not reached.
		last--
	}
	return floor(first, east*side), floor(last, east*side)
}
