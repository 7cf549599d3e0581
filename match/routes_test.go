package match_test

import (
	"fmt"
	"math/big"
	"math/rand"
	"slices"
	"testing"

	"harrier/api"
	"harrier/match"
	"harrier/track"
)

func TestE8Spaced(t *testing.T) {
	for _, c := range []struct {
		what string
		a    api.Activity
		n    int
		want string
	}{
		{"the example", walk([3]int{0, 0, 0}, [3]int{5, 10, 0}, [3]int{6, 10, 10}), 3, "[{0 0} {10 0} {10 10}]"},
		{"both ends", path(pt(1, 2), pt(5, 9), pt(3, 4)), 2, "[{1 2} {3 4}]"},
		{"one sample", path(pt(7, -8)), 3, "[{7 -8} {7 -8} {7 -8}]"},
		{"no way", path(pt(7, -8), pt(7, -8)), 2, "[{7 -8} {7 -8}]"},
		{"more places than decimetres", path(pt(0, 0), pt(2, 0)), 6, "[{0 0} {0 0} {0 0} {1 0} {1 0} {2 0}]"},
		{"halves go up", path(pt(0, 0), pt(3, 4), pt(0, 0)), 5, "[{0 0} {1 2} {3 4} {2 2} {0 0}]"},
		{"halves go up also below 0", path(pt(0, 0), pt(-1, 10)), 3, "[{0 0} {0 5} {-1 10}]"},
		{"a rest on the way", path(pt(0, 0), pt(5, 0), pt(5, 0), pt(10, 0)), 3, "[{0 0} {5 0} {10 0}]"},
		{"there and back", path(pt(0, 0), pt(10, 0), pt(0, 0)), 5, "[{0 0} {5 0} {10 0} {5 0} {0 0}]"},
		{"far", path(pt(-api.MaxPlace, 0), pt(api.MaxPlace, 0)), 3, "[{-100000000 0} {0 0} {100000000 0}]"},
	} {
		l, e := match.Spaced(c.a, c.n)
		want(t, c.what, told(l, e), c.want+" 0")
	}
}

func TestE8Errors(t *testing.T) {
	runRanges(t, []rangeCase{{"Spaced", 2, match.MaxRoute, func(n int) api.Errno { _, e := match.Spaced(path(pt(0, 0), pt(5, 5)), n); return e }}})
	_, e := match.Spaced(wrong(), 1)
	want(t, "a wrong activity", told(e), told(api.ErrKind))
	_, e = match.Spaced(path(), 1)
	want(t, "a wrong number, and no samples", told(e), told(api.ErrRange))
	_, e = match.Spaced(path(), 2)
	want(t, "no samples", told(e), told(api.ErrEmpty))
}

// exactPlace is where d was gone, looked for from the first sample on.
func exactPlace(a api.Activity, ways []int, d int) api.Point {
	for i, x := range a.Samples {
		if ways[i] == d {
			return pt(x.X, x.Y)
		}
		if y := a.Samples[min(i+1, len(ways)-1)]; ways[i+1] > d && ways[i] < d {
			at := func(from, to int) int {
				part := new(big.Rat).Mul(number(to-from), big.NewRat(int64(d-ways[i]), int64(ways[i+1]-ways[i])))
				part.Add(part, number(from))
				return floorOf(part.Add(part, big.NewRat(1, 2)))
			}
			return pt(at(x.X, y.X), at(x.Y, y.Y))
		}
	}
	return api.Point{}
}

func TestE8ExactPlaces(t *testing.T) {
	r := rand.New(rand.NewSource(9))
	for i := range 2000 {
		a, n := someWalk(r, 1+r.Intn(12), []int{2, 9, 1000, api.MaxPlace}[i%4], 1), 2+r.Intn(20)
		ways, _ := track.Ways(a)
		var wanted []api.Point
		for k := range n {
			wanted = append(wanted, exactPlace(a, ways, ways[len(ways)-1]*k/(n-1)))
		}
		l, e := match.Spaced(a, n)
		want(t, fmt.Sprint("Spaced ", a.Samples, n), told(l, e), told(wanted, 0))
	}
}

func TestE9Apart(t *testing.T) {
	const far = api.MaxPlace
	for _, c := range []struct {
		what string
		a, b []api.Point
		want string
	}{
		{"the same", []api.Point{pt(3, 4), pt(5, 6)}, []api.Point{pt(3, 4), pt(5, 6)}, "0"},
		{"one and one", []api.Point{pt(0, 0)}, []api.Point{pt(3, -4)}, "25"},
		{"one and several: each one counts", []api.Point{pt(0, 0)}, []api.Point{pt(1, 0), pt(9, 0), pt(2, 0)}, "81"},
		{"several and one", []api.Point{pt(1, 0), pt(9, 0), pt(2, 0)}, []api.Point{pt(0, 0)}, "81"},
		{"both go on at once", []api.Point{pt(0, 0), pt(10, 0)}, []api.Point{pt(0, 1), pt(10, 1)}, "1"},
		{"one waits", []api.Point{pt(0, 0), pt(10, 0)}, []api.Point{pt(0, 3), pt(5, 3), pt(10, 3)}, "34"},
		{"the other way round they go", []api.Point{pt(0, 0), pt(10, 0)}, []api.Point{pt(10, 0), pt(0, 0)}, "100"},
		{"nobody goes back", []api.Point{pt(0, 0), pt(10, 0), pt(0, 0), pt(10, 0)}, []api.Point{pt(0, 0), pt(10, 0)}, "100"},
		{"the farthest", []api.Point{pt(-far, -far)}, []api.Point{pt(far, far)}, "80000000000000000"},
	} {
		n, e := match.Apart(c.a, c.b)
		want(t, c.what, told(n, e), c.want+" 0")
	}
}

func TestE9Errors(t *testing.T) {
	const far = api.MaxPlace
	one, out := []api.Point{pt(0, 0)}, []api.Point{pt(0, far+1)}
	many := func(n int, p api.Point) []api.Point { return slices.Repeat([]api.Point{p}, n) }
	for _, c := range []struct {
		what string
		a, b []api.Point
		want api.Errno
	}{
		{"none", nil, nil, api.ErrEmpty}, {"none in a", nil, many(301, out[0]), api.ErrEmpty}, {"none in b", many(301, out[0]), nil, api.ErrEmpty},
		{"as many as there can be", many(300, one[0]), many(300, one[0]), api.OK}, {"one more in a", many(301, out[0]), one, api.ErrSize}, {"one more in b", out, many(301, one[0]), api.ErrSize},
		{"out of the plane in a", out, one, api.ErrRange}, {"out of the plane in b", one, out, api.ErrRange}, {"at the end of b", one, []api.Point{pt(1, 1), pt(-far-1, 0)}, api.ErrRange},
		{"at its border", []api.Point{pt(far, -far)}, []api.Point{pt(-far, far)}, api.OK},
	} {
		_, e := match.Apart(c.a, c.b)
		want(t, c.what, told(e), told(c.want))
	}
	runRanges(t, []rangeCase{
		{"X of a", -far, far, func(n int) api.Errno { _, e := match.Apart([]api.Point{pt(0, 0), pt(n, 0)}, one); return e }},
		{"Y of a", -far, far, func(n int) api.Errno { _, e := match.Apart([]api.Point{pt(0, n), pt(0, 0)}, one); return e }},
		{"X of b", -far, far, func(n int) api.Errno { _, e := match.Apart(one, []api.Point{pt(0, 0), pt(n, 0)}); return e }},
		{"Y of b", -far, far, func(n int) api.Errno { _, e := match.Apart(one, []api.Point{pt(0, n), pt(0, 0)}); return e }},
	})
}

func far(p, q api.Point) int { return (p.X-q.X)*(p.X-q.X) + (p.Y-q.Y)*(p.Y-q.Y) }

// tried goes all ways on along both lists, and returns the best one's greatest square.
func tried(a, b []api.Point) int {
	here, best := far(a[0], b[0]), -1
	better := func(n int) {
		if best < 0 || n < best {
			best = n
		}
	}
	if len(a) > 1 {
		better(tried(a[1:], b))
	}
	if len(b) > 1 {
		better(tried(a, b[1:]))
	}
	if len(a) > 1 && len(b) > 1 {
		better(tried(a[1:], b[1:]))
	}
	return max(here, best)
}

func somePlaces(r *rand.Rand, most, size int) []api.Point {
	var l []api.Point
	for range 1 + r.Intn(most) {
		l = append(l, somePoint(r, size))
	}
	return l
}

func TestE9Tried(t *testing.T) {
	r := rand.New(rand.NewSource(10))
	for range 2000 {
		size := 1 + r.Intn(20)
		a, b := somePlaces(r, 6, size), somePlaces(r, 6, size)
		n, e := match.Apart(a, b)
		want(t, fmt.Sprint("Apart ", a, b), told(n, e), told(tried(a, b), 0))
	}
}

// TestE9OtherWayRound: Apart is the same the other way round, 0 for equal lists, and not less than at both ends.
func TestE9OtherWayRound(t *testing.T) {
	r := rand.New(rand.NewSource(11))
	for range 100 {
		a, b := somePlaces(r, match.MaxRoute, 50), somePlaces(r, match.MaxRoute, 50)
		n, e := match.Apart(a, b)
		m, e2 := match.Apart(b, a)
		want(t, "Apart the other way round", told(m, e2), told(n, e))
		if n < far(a[0], b[0]) || n < far(a[len(a)-1], b[len(b)-1]) {
			t.Error("less than at an end: ", n, a, b)
		}
		n, e = match.Apart(a, slices.Clone(a))
		want(t, "Apart of equal lists", told(n, e), "0 0")
	}
}
