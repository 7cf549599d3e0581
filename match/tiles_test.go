package match_test

import (
	"cmp"
	"fmt"
	"maps"
	"math/big"
	"math/rand"
	"slices"
	"testing"

	"harrier/api"
	"harrier/match"
)

func compareTiles(s, t api.Tile) int { return cmp.Or(cmp.Compare(s.X, t.X), cmp.Compare(s.Y, t.Y)) }

func TestE6CellOf(t *testing.T) {
	const far = api.MaxPlace
	for _, c := range []struct {
		p    api.Point
		side int
		want string
	}{
		{pt(0, 0), 10, "{0 0} 0"}, {pt(9, 10), 10, "{0 1} 0"}, {pt(-1, -10), 10, "{-1 -1} 0"}, {pt(-11, 19), 10, "{-2 1} 0"}, {pt(5, -5), 1, "{5 -5} 0"},
		{pt(far, -far), 1, "{100000000 -100000000} 0"}, {pt(far, -far), match.MaxSide, "{10 -10} 0"}, {pt(far-1, 1-far), match.MaxSide, "{9 -10} 0"},
	} {
		got, e := match.CellOf(c.p, c.side)
		want(t, fmt.Sprint("CellOf ", c.p, c.side), told(got, e), c.want)
	}
	runRanges(t, []rangeCase{
		{"CellOf, side", 1, match.MaxSide, func(n int) api.Errno { _, e := match.CellOf(pt(1, 1), n); return e }},
		{"CellOf, X", -far, far, func(n int) api.Errno { _, e := match.CellOf(pt(n, 1), 7); return e }},
		{"CellOf, Y", -far, far, func(n int) api.Errno { _, e := match.CellOf(pt(1, n), 7); return e }},
		{"Tiles, side", 1, match.MaxSide, func(n int) api.Errno { _, e := match.Tiles(path(pt(1, 1)), n); return e }},
	})
}

func TestE6Tiles(t *testing.T) {
	for _, c := range []struct {
		what string
		a    api.Activity
		side int
		want string
	}{
		{"no sample", path(), 10, "[]"},
		{"one sample", path(pt(-1, 25)), 10, "[{-1 2}]"},
		{"no way", path(pt(-1, 25), pt(-1, 25), pt(-1, 25)), 10, "[{-1 2}]"},
		{"in a tile", path(pt(1, 1), pt(9, 9), pt(0, 0)), 10, "[{0 0}]"},
		{"to the east", path(pt(5, 5), pt(25, 5)), 10, "[{0 0} {1 0} {2 0}]"},
		{"to the west", path(pt(5, 5), pt(-5, 5)), 10, "[{-1 0} {0 0}]"},
		{"to the north", path(pt(5, 5), pt(5, 20)), 10, "[{0 0} {0 1} {0 2}]"},
		{"to the south", path(pt(5, 5), pt(5, -20)), 10, "[{0 -2} {0 -1} {0 0}]"},
		{"up to a border", path(pt(5, 5), pt(10, 5)), 10, "[{0 0} {1 0}]"},
		{"ahead of a border", path(pt(5, 5), pt(9, 5)), 10, "[{0 0}]"},
		{"along a border", path(pt(10, 0), pt(10, 19)), 10, "[{1 0} {1 1}]"},
		{"along another border", path(pt(0, 10), pt(19, 10)), 10, "[{0 1} {1 1}]"},
		{"through a corner, north-east", path(pt(5, 5), pt(15, 15)), 10, "[{0 0} {1 1}]"},
		{"through a corner, south-west", path(pt(15, 15), pt(5, 5)), 10, "[{0 0} {1 1}]"},
		{"through a corner, south-east", path(pt(5, 15), pt(15, 5)), 10, "[{0 1} {1 0} {1 1}]"},
		{"through a corner, north-west", path(pt(15, 5), pt(5, 15)), 10, "[{0 1} {1 0} {1 1}]"},
		{"from border to border", path(pt(0, 10), pt(10, 0)), 10, "[{0 0} {0 1} {1 0}]"},
		{"to and fro", path(pt(0, 0), pt(20, 0), pt(0, 0), pt(20, 0)), 10, "[{0 0} {1 0} {2 0}]"},
		{"there, and another way back", path(pt(0, 0), pt(20, 0), pt(20, 10), pt(0, 10)), 10, "[{0 0} {0 1} {1 0} {1 1} {2 0} {2 1}]"},
		{"slowly up", path(pt(0, 9), pt(40, 10)), 10, "[{0 0} {1 0} {2 0} {3 0} {4 1}]"},
		{"over all of the plane", path(pt(-api.MaxPlace, -api.MaxPlace), pt(api.MaxPlace, api.MaxPlace-1)), match.MaxSide, ""},
	} {
		l, e := match.Tiles(c.a, c.side)
		if c.want == "" {
			c.want = told(exactTiles(c.a, c.side))
		}
		want(t, c.what, told(l, e), c.want+" 0")
	}
}

func TestE6Errors(t *testing.T) {
	_, e := match.Tiles(wrong(), 0)
	want(t, "a wrong activity, and a wrong side", told(e), told(api.ErrKind))
	wide := path(pt(-api.MaxPlace, -api.MaxPlace), pt(api.MaxPlace, api.MaxPlace))
	_, e = match.Tiles(wide, 0)
	want(t, "a wrong side, and many tiles", told(e), told(api.ErrRange))
	_, e = match.Tiles(wide, 1)
	want(t, "many tiles", told(e), told(api.ErrSize))
	for _, c := range []struct {
		what string
		a    api.Activity
		want string
	}{
		{"as many as there can be", path(pt(0, 0), pt(match.MaxTiles-1, 0)), "100000 0"},
		{"one more", path(pt(0, 0), pt(match.MaxTiles, 0)), "0 3"},
		{"to the north", path(pt(0, 0), pt(0, match.MaxTiles-1)), "100000 0"},
		{"one more to the north", path(pt(0, 0), pt(0, match.MaxTiles)), "0 3"},
		{"in two steps", path(pt(0, 0), pt(0, 50_000), pt(49_999, 50_000)), "100000 0"},
		{"one more in two steps", path(pt(0, 0), pt(0, 50_000), pt(50_000, 50_000)), "0 3"},
		{"to and fro", path(pt(0, 0), pt(0, 50_000), pt(49_999, 50_000), pt(0, 50_000), pt(0, 0), pt(0, 49_000)), "100000 0"},
	} {
		l, e := match.Tiles(c.a, 1)
		want(t, c.what, told(len(l), e), c.want)
	}
	far := walk()
	for i := range api.MaxSamples {
		far.Samples = append(far.Samples, api.Sample{At: i, X: i % 2 * (match.MaxTiles - 1)})
	}
	l, e := match.Tiles(far, 1)
	want(t, "to and fro, as often and far as can be", told(len(l), e), "100000 0")
}

// exactTiles finds the tiles at each border that a step comes to, and in the middle between two of these: nothing else changes on the way.
func exactTiles(a api.Activity, side int) []api.Tile {
	seen := map[api.Tile]bool{}
	for i, q := range a.Samples {
		p := a.Samples[max(i-1, 0)]
		parts := append(borders(p.X, q.X, side), borders(p.Y, q.Y, side)...)
		slices.SortFunc(parts, func(x, y *big.Rat) int { return x.Cmp(y) })
		for k, part := range parts {
			seen[tileAt(p, q, part, side)] = true
			if k > 0 {
				middle := new(big.Rat).Add(parts[k-1], part)
				seen[tileAt(p, q, middle.Quo(middle, number(2)), side)] = true
			}
		}
	}
	return slices.SortedFunc(maps.Keys(seen), compareTiles)
}

// borders returns which parts of the way from one number to another one are gone at 0, at multiples of side, and at the end.
func borders(from, to, side int) []*big.Rat {
	parts := []*big.Rat{number(0), number(1)}
	for n := min(from, to) / side * side; n <= max(from, to); n += side {
		if n > min(from, to) {
			parts = append(parts, big.NewRat(int64(n-from), int64(to-from)))
		}
	}
	return parts
}

func tileAt(p, q api.Sample, part *big.Rat, side int) api.Tile {
	at := func(from, to int) int {
		x := new(big.Rat).Mul(number(to-from), part)
		x.Add(x, number(from))
		return floorOf(x.Quo(x, number(side)))
	}
	return api.Tile{X: at(p.X, q.X), Y: at(p.Y, q.Y)}
}

func TestE6ExactTiles(t *testing.T) {
	r := rand.New(rand.NewSource(6))
	for i := range 3000 {
		size := []int{4, 9, 30, 1000, api.MaxPlace}[i%5]
		side := []int{1 + r.Intn(3), 1 + r.Intn(9), 5, 60 + r.Intn(900), match.MaxSide - r.Intn(5)*1_234_567}[i%5]
		a := someWalk(r, r.Intn(5), size, 1)
		l, e := match.Tiles(a, side)
		want(t, fmt.Sprint("Tiles ", a.Samples, side), told(l, e), told(exactTiles(a, side), 0))
	}
}

// TestE6WithCells: Tiles has the tile of each sample, and is the same for who comes back the same way.
func TestE6WithCells(t *testing.T) {
	r := rand.New(rand.NewSource(7))
	for range 500 {
		a, side := someWalk(r, 1+r.Intn(20), 60, 1), 1+r.Intn(20)
		l, _ := match.Tiles(a, side)
		for _, x := range a.Samples {
			c, e := match.CellOf(pt(x.X, x.Y), side)
			want(t, fmt.Sprint(c, " is in ", l), told(slices.Contains(l, c), e), "true 0")
		}
		back := path()
		for _, x := range slices.Backward(a.Samples) {
			back.Samples = append(back.Samples, api.Sample{At: len(back.Samples), X: x.X, Y: x.Y})
		}
		other, e := match.Tiles(back, side)
		want(t, "Tiles, back", told(other, e), told(l, 0))
		want(t, "CheckTiles", told(match.CheckTiles(l)), "0")
	}
}

func row(many int) []api.Tile {
	var l []api.Tile
	for i := range many {
		l = append(l, api.Tile{X: i / 400, Y: i % 400})
	}
	return l
}

func TestE7CheckTiles(t *testing.T) {
	const far = api.MaxPlace
	ok := []api.Tile{{}}
	for _, c := range []struct {
		l    []api.Tile
		want api.Errno
	}{
		{nil, api.OK}, {ok, api.OK}, {row(match.MaxTiles), api.OK}, {[]api.Tile{{X: -far, Y: -far}, {X: -far, Y: far}, {X: far, Y: -far}, {X: far, Y: far}}, api.OK},
		{row(match.MaxTiles + 1), api.ErrSize}, {make([]api.Tile, match.MaxTiles+1), api.ErrSize},
		{[]api.Tile{{X: far + 1}}, api.ErrRange}, {[]api.Tile{{X: -far - 1}}, api.ErrRange}, {[]api.Tile{{Y: far + 1}}, api.ErrRange}, {[]api.Tile{{Y: -far - 1}}, api.ErrRange},
		{[]api.Tile{{}, {Y: -far - 1}}, api.ErrRange}, {[]api.Tile{{X: -1 << 63}}, api.ErrRange}, {[]api.Tile{{Y: 1<<63 - 1}}, api.ErrRange},
		{[]api.Tile{{}, {}}, api.ErrOrder}, {[]api.Tile{{X: 1}, {Y: 1}}, api.ErrOrder}, {[]api.Tile{{Y: 1}, {}}, api.ErrOrder}, {[]api.Tile{{}, {}, {X: far + 1}}, api.ErrOrder},
	} {
		what := fmt.Sprint(c.l[:min(len(c.l), 9)])
		_, _, e1 := match.Square(c.l)
		_, e2 := match.Cluster(c.l)
		_, _, e3 := match.Shared(c.l, ok)
		_, _, e4 := match.Shared(ok, c.l)
		want(t, what, told(match.CheckTiles(c.l), e1, e2, e3, e4), told(c.want, c.want, c.want, c.want, c.want))
	}
	_, _, e := match.Shared([]api.Tile{{}, {}}, []api.Tile{{X: far + 1}})
	want(t, "the first list first", told(e), told(api.ErrOrder))
}

// field makes a list of the tiles that are told by letters: the first text has those with the least X, its first letter that with the least Y.
func field(x, y int, rows ...string) []api.Tile {
	var l []api.Tile
	for i, s := range rows {
		for k := range s {
			if s[k] != '.' {
				l = append(l, api.Tile{X: x + i, Y: y + k})
			}
		}
	}
	return l
}

func TestE7Square(t *testing.T) {
	for _, c := range []struct {
		l    []api.Tile
		want string
	}{
		{nil, "{0 0} 0 0"},
		{field(-7, -9, "x"), "{-7 -9} 1 0"},
		{field(0, 0, "x.x", ".x.", "x.x"), "{0 0} 1 0"},
		{field(-1, -1, "xx", "xx"), "{-1 -1} 2 0"},
		{field(0, 0, "xxx", "x.x", "xxx"), "{0 0} 1 0"},
		{field(0, 0, "xx..xx", "xx..xx"), "{0 0} 2 0"},
		{field(0, 0, "....xx", "xx..xx", "xx...."), "{0 4} 2 0"},
		{field(0, 0, "xxx", "xxx"), "{0 0} 2 0"},
		{field(0, 0, ".x...", "xxxxx", ".xxx.", ".xxx.", "..x.."), "{1 1} 3 0"},
		{field(api.MaxPlace-1, api.MaxPlace-1, "xx", "xx"), "{99999999 99999999} 2 0"},
		{row(match.MaxTiles), "{0 0} 250 0"},
	} {
		x, n, e := match.Square(c.l)
		want(t, fmt.Sprint("Square ", c.l[:min(len(c.l), 30)]), told(x, n, e), c.want)
	}
}

func TestE7Cluster(t *testing.T) {
	for _, c := range []struct {
		l    []api.Tile
		want string
	}{
		{nil, "[] 0"},
		{field(0, 0, "xx", "xx"), "[] 0"},
		{field(0, 0, ".x.", "x.x", ".x."), "[] 0"},
		{field(-1, -1, ".x.", "xxx", ".x."), "[{0 0}] 0"},
		{field(0, 0, ".x..x.", "xxxxxx", ".x..x."), "[{1 1}] 0"},
		{field(0, 0, "xxx.xxxx", "xxx.xxxx", "xxx.xxxx"), "[{1 5} {1 6}] 0"},
		{field(0, 0, ".xx..xx.", "xxxxxxxx", ".xx..xx."), "[{1 1} {1 2}] 0"},
		// Inner tiles that touch each other at a corner are no neighbours.
		{field(0, 0, ".x..", "xxx.", ".xxx", "..x."), "[{1 1}] 0"},
		{field(0, 0, ".x..", "xxxx", "xxxx", "..x."), "[{1 1}] 0"},
		{field(0, 0, ".xx.", "xxxx", "xxxx", ".xx."), "[{1 1} {1 2} {2 1} {2 2}] 0"},
	} {
		l, e := match.Cluster(c.l)
		want(t, fmt.Sprint("Cluster ", c.l), told(l, e), c.want)
	}
	l, e := match.Cluster(row(match.MaxTiles))
	want(t, "many tiles", told(len(l), l[0], e), told(248*398, api.Tile{X: 1, Y: 1}, 0))
}

func TestE7Shared(t *testing.T) {
	for _, c := range []struct {
		a, b []api.Tile
		want string
	}{
		{nil, nil, "0 0 0"}, {row(3), nil, "0 3 0"}, {nil, row(3), "0 3 0"}, {row(3), row(3), "3 3 0"}, {row(5), row(3), "3 5 0"}, {row(3), row(5)[2:], "1 5 0"},
		{field(0, 0, "x.x"), field(0, 0, ".x."), "0 3 0"}, {row(match.MaxTiles), field(-1, 0, "x", "x"), "1 100001 0"},
	} {
		both, one, e := match.Shared(c.a, c.b)
		want(t, fmt.Sprint("Shared ", len(c.a), c.b), told(both, one, e), c.want)
	}
}

// someField makes a list of tiles: those of a rectangle, but for some of them.
func someField(r *rand.Rand) []api.Tile {
	var l []api.Tile
	less := 1 + r.Intn(20)
	wide, high := 1+r.Intn(10), 1+r.Intn(10)
	for x := range wide {
		for y := range high {
			if r.Intn(less) > 0 || less == 1 {
				l = append(l, api.Tile{X: x - 5, Y: y - 3})
			}
		}
	}
	return l
}

// TestE7Searched compares with a search through all squares, and with groups whose tiles are given the same mark as their neighbours until nothing changes.
func TestE7Searched(t *testing.T) {
	r := rand.New(rand.NewSource(8))
	for range 2000 {
		l, other := someField(r), someField(r)
		x, n, e := match.Square(l)
		wanted, side := searchedSquare(l)
		want(t, fmt.Sprint("Square ", l), told(x, n, e), told(wanted, side, 0))
		group, e := match.Cluster(l)
		want(t, fmt.Sprint("Cluster ", l), told(group, e), told(markedCluster(l), 0))
		both := 0
		for _, x := range l {
			if slices.Contains(other, x) {
				both++
			}
		}
		n, m, e := match.Shared(l, other)
		want(t, fmt.Sprint("Shared ", l, other), told(n, m, e), told(both, len(l)+len(other)-both, 0))
	}
}

func searchedSquare(l []api.Tile) (least api.Tile, most int) {
	set := map[api.Tile]bool{}
	for _, x := range l {
		set[x] = true
	}
	for side := 1; side <= 10; side++ {
		for i := len(l) - 1; i >= 0; i-- {
			full := true
			for k := range side * side {
				full = full && set[api.Tile{X: l[i].X + k/side, Y: l[i].Y + k%side}]
			}
			if full {
				least, most = l[i], side
			}
		}
	}
	return least, most
}

func markedCluster(l []api.Tile) []api.Tile {
	set, mark := map[api.Tile]bool{}, map[api.Tile]int{}
	for _, x := range l {
		set[x] = true
	}
	around := func(x api.Tile) []api.Tile {
		return []api.Tile{{X: x.X - 1, Y: x.Y}, {X: x.X + 1, Y: x.Y}, {X: x.X, Y: x.Y - 1}, {X: x.X, Y: x.Y + 1}}
	}
	for i, x := range l {
		if !slices.ContainsFunc(around(x), func(y api.Tile) bool { return !set[y] }) {
			mark[x] = i + 1
		}
	}
	for changed := true; changed; {
		changed = false
		for _, x := range l {
			for _, y := range around(x) {
				if mark[x] > 0 && mark[y] > 0 && mark[y] < mark[x] {
					mark[x], changed = mark[y], true
				}
			}
		}
	}
	var most []api.Tile
	for i := range l {
		var group []api.Tile
		for _, x := range l {
			if mark[x] == i+1 {
				group = append(group, x)
			}
		}
		if len(group) > len(most) {
			most = group
		}
	}
	return most
}

// TestE7CompareTiles has tiles in their order.
func TestE7CompareTiles(t *testing.T) {
	l := []api.Tile{{X: -5, Y: 9}, {X: -5, Y: 10}, {X: 0, Y: -1}, {X: 0, Y: 0}, {X: 7, Y: -3}}
	for i, a := range l {
		for j, b := range l {
			want(t, fmt.Sprint(a, b), fmt.Sprint(match.CompareTiles(a, b)), fmt.Sprint(cmp.Compare(i, j)))
		}
	}
}
