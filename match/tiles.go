package match

import (
	"cmp"
	"maps"
	"slices"

	"harrier/api"
	"harrier/quant"
	"harrier/record"
)

// CellOf returns the tile of a place.
func CellOf(p api.Point, side int) (api.Tile, api.Errno) {
	if !within(side, 1, MaxSide) || !isOnPlane(p) {
		return api.Tile{}, api.ErrRange
	}
	return api.Tile{X: floor(p.X, side), Y: floor(p.Y, side)}, api.OK
}

// Tiles returns the tiles in which an activity was.
func Tiles(a api.Activity, side int) ([]api.Tile, api.Errno) {
	if e := record.Check(a); e != api.OK {
		return nil, e
	}
	if !within(side, 1, MaxSide) {
		return nil, api.ErrRange
	}
	seen := map[api.Tile]bool{}
	for w := range waysOf(a.Samples) {
		for t := range w.tiles(side) {
			seen[t] = true
			if len(seen) > MaxTiles {
				return nil, api.ErrSize
			}
		}
	}
	return slices.SortedFunc(maps.Keys(seen), CompareTiles), api.OK
}

// CompareTiles compares tiles by X, then by Y.
func CompareTiles(s, t api.Tile) int {
	return cmp.Or(cmp.Compare(s.X, t.X), cmp.Compare(s.Y, t.Y))
}

func floor(n, part int) int {
	n, _ = quant.Div(n, part, quant.Down)
	return n
}

// CheckTiles returns what is wrong with a list of tiles.
func CheckTiles(l []api.Tile) api.Errno {
	if len(l) > MaxTiles {
		return api.ErrSize
	}
	for i, t := range l {
		if !isInRange(t.X, t.Y) {
			return api.ErrRange
		}
		if i > 0 && CompareTiles(l[i-1], t) >= 0 {
			return api.ErrOrder
		}
	}
	return api.OK
}

// Square returns the greatest square of tiles: its least tile, and how many a side has.
func Square(l []api.Tile) (api.Tile, int, api.Errno) {
	if e := CheckTiles(l); e != api.OK {
		return api.Tile{}, 0, e
	}
	sides := make(map[api.Tile]int, len(l)) // of the greatest square of which this is the least tile
	var least api.Tile
	most := 0
	// Backwards, as the squares that begin behind a tile tell how great its own is; the least of equal ones comes last then.
	for _, t := range slices.Backward(l) {
		x, y := t.X+1, t.Y+1
		side := 1 + min(sides[api.Tile{X: x, Y: t.Y}], sides[api.Tile{X: t.X, Y: y}], sides[api.Tile{X: x, Y: y}])
		sides[t] = side
		if side >= most {
			least, most = t, side
		}
	}
	return least, most, api.OK
}

// Cluster returns the greatest group of tiles that have all their neighbours.
func Cluster(l []api.Tile) ([]api.Tile, api.Errno) {
	if e := CheckTiles(l); e != api.OK {
		return nil, e
	}
	inner := innerOf(l)
	var most []api.Tile
	// In order, so that of equal groups the one with the least tile comes first.
	for _, t := range l {
		if !inner[t] {
			continue
		}
		if group := takeGroup(inner, t); len(group) > len(most) {
			most = group
		}
	}
	slices.SortFunc(most, CompareTiles)
	return most, api.OK
}

func neighbours(t api.Tile) [4]api.Tile {
	return [4]api.Tile{{X: t.X + 1, Y: t.Y}, {X: t.X - 1, Y: t.Y}, {X: t.X, Y: t.Y + 1}, {X: t.X, Y: t.Y - 1}}
}

func setOf(l []api.Tile) map[api.Tile]bool {
	set := make(map[api.Tile]bool, len(l))
	for _, t := range l {
		set[t] = true
	}
	return set
}

// innerOf returns the set of tiles that have all their neighbours.
func innerOf(l []api.Tile) map[api.Tile]bool {
	all, inner := setOf(l), map[api.Tile]bool{}
	for _, t := range l {
		inside := true
		for _, n := range neighbours(t) {
			inside = inside && all[n]
		}
		if inside {
			inner[t] = true
		}
	}
	return inner
}

// takeGroup takes the tile t, and all that hang together with it, out of a set.
func takeGroup(set map[api.Tile]bool, t api.Tile) []api.Tile {
	delete(set, t)
	group := []api.Tile{t}
	for i := 0; i < len(group); i++ {
		for _, n := range neighbours(group[i]) {
			if set[n] {
				delete(set, n)
				group = append(group, n)
			}
		}
	}
	return group
}

// Shared returns how many tiles are in both lists, and how many in at least one.
func Shared(a, b []api.Tile) (both, one int, e api.Errno) {
	for _, l := range [][]api.Tile{a, b} {
		if e := CheckTiles(l); e != api.OK {
			return 0, 0, e
		}
	}
	first := setOf(a)
	for _, t := range b {
		if first[t] {
			both++
		}
	}
	return both, len(a) + len(b) - both, api.OK
}
