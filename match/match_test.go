package match_test

import (
	"fmt"
	"math"
	"math/rand"
	"reflect"
	"slices"
	"strings"
	"testing"

	"harrier/api"
	"harrier/match"
)

// told writes results with spaces between; codes of errors as numbers.
func told(l ...any) string {
	for i, x := range l {
		if e, ok := x.(api.Errno); ok {
			l[i] = int(e)
		}
	}
	return strings.TrimSuffix(fmt.Sprintln(l...), "\n")
}

func want(t *testing.T, what, got, wanted string) {
	t.Helper()
	if got != wanted {
		t.Errorf("%s: got %q, want %q", what, got, wanted)
	}
}

func pt(x, y int) api.Point { return api.Point{X: x, Y: y} }

// walk makes an activity of samples, with At, X and Y each.
func walk(l ...[3]int) api.Activity {
	a := api.Activity{Name: "walk", Sport: api.Walk, Start: 1000}
	for _, s := range l {
		a.Samples = append(a.Samples, api.Sample{At: s[0], X: s[1], Y: s[2], Pulse: -1, Power: -1, Steps: -1})
	}
	return a
}

// path makes an activity of places, a second apart.
func path(l ...api.Point) api.Activity {
	a := walk()
	for i, p := range l {
		a.Samples = append(a.Samples, api.Sample{At: i, X: p.X, Y: p.Y})
	}
	return a
}

// wrong is an activity that record.Check refuses, with an error that no function of this chapter has by itself.
func wrong() api.Activity {
	a := walk([3]int{0, 0, 0}, [3]int{1, 5, 5})
	a.Sport = 0
	return a
}

// within makes a number from -size to size.
func within(r *rand.Rand, size int) int { return r.Intn(2*size+1) - size }

func somePoint(r *rand.Rand, size int) api.Point { return pt(within(r, size), within(r, size)) }

// someWalk makes an activity of so many samples at places up to size, whose seconds are multiples of unit.
func someWalk(r *rand.Rand, many, size, unit int) api.Activity {
	a, at := walk(), 0
	for range many {
		p := somePoint(r, size)
		a.Samples = append(a.Samples, api.Sample{At: at, X: p.X, Y: p.Y})
		at += unit * (1 + r.Intn(9))
	}
	return a
}

func TestLimits(t *testing.T) {
	want(t, "limits", told(match.MaxGates, match.MaxSide, match.MaxTiles, match.MaxRoute, match.MaxBoard, match.MaxTime), "50 10000000 100000 300 5000 1000000000")
}

// rangeCase is a call with a number, and from where to where this is right.
type rangeCase struct {
	what      string
	low, high int
	call      func(n int) api.Errno
}

func runRanges(t *testing.T, l []rangeCase) {
	t.Helper()
	for _, c := range l {
		for n, e := range map[int]api.Errno{c.low: api.OK, c.high: api.OK, c.low - 1: api.ErrRange, c.high + 1: api.ErrRange, math.MinInt: api.ErrRange, math.MaxInt: api.ErrRange} {
			want(t, fmt.Sprint(c.what, " ", n), told(c.call(n)), told(e))
		}
	}
}

// given has arguments, with room behind their elements.
type given struct {
	s      api.Segment
	a      api.Activity
	scores []api.Score
	tiles  []api.Tile
	places []api.Point
}

func newGiven() *given {
	x := &given{
		s:      api.Segment{Name: "s", Gates: roomy([]api.Gate{{A: pt(5, 9), B: pt(5, -9)}, {A: pt(15, 9), B: pt(15, -9)}})},
		a:      path(pt(0, 0), pt(20, 0), pt(0, 0), pt(30, 0)),
		scores: roomy([]api.Score{{Name: "b", Start: 3, Time: 9}, {Name: "a", Start: 2, Time: 9}, {Name: "b", Start: 1, Time: 7}}),
		tiles:  roomy([]api.Tile{{X: 0, Y: 1}, {X: 1, Y: 0}, {X: 1, Y: 1}, {X: 1, Y: 2}, {X: 2, Y: 1}}),
		places: roomy([]api.Point{pt(0, 0), pt(5, 5), pt(9, 0)}),
	}
	x.a.Samples, x.a.Laps, x.a.Tags = roomy(x.a.Samples), roomy([]api.Lap{{From: 0, To: 1}}), roomy([]string{"a"})
	return x
}

func roomy[T any](l []T) []T { return append(make([]T, 0, len(l)+9), l...) }

func all[T any](l []T) []T { return l[:cap(l)] }

// whole has the lists as long as their capacity is.
func (x *given) whole() given {
	y := given{x.s, x.a, all(x.scores), all(x.tiles), all(x.places)}
	y.s.Gates, y.a.Samples, y.a.Laps, y.a.Tags = all(x.s.Gates), all(x.a.Samples), all(x.a.Laps), all(x.a.Tags)
	return y
}

// TestE1OwnMemory asks whether arguments stay as they are, and whether results have memory of their own (Z2).
func TestE1OwnMemory(t *testing.T) {
	two := func(x any, e api.Errno) []any { return []any{x, e} }
	three := func(x, y any, e api.Errno) []any { return []any{x, y, e} }
	calls := map[string]func(x *given) []any{
		"Turned":    func(x *given) []any { return two(match.Turned(x.s)) },
		"Crossings": func(x *given) []any { return two(match.Crossings(x.s, x.a)) },
		"Efforts":   func(x *given) []any { return two(match.Efforts(x.s, x.a)) },
		"Best":      func(x *given) []any { y, ok, e := match.Best(x.s, x.a); return three(y, ok, e) },
		"Places":    func(x *given) []any { return two(match.Places(x.scores)) },
		"Tiles":     func(x *given) []any { return two(match.Tiles(x.a, 5)) },
		"Square":    func(x *given) []any { y, n, e := match.Square(x.tiles); return three(y, n, e) },
		"Cluster":   func(x *given) []any { return two(match.Cluster(x.tiles)) },
		"Shared":    func(x *given) []any { n, m, e := match.Shared(x.tiles, x.tiles[:2]); return three(n, m, e) },
		"Spaced":    func(x *given) []any { return two(match.Spaced(x.a, 4)) },
		"Apart":     func(x *given) []any { return two(match.Apart(x.places, x.places[1:2])) },
	}
	for name, call := range calls {
		x, y := newGiven(), newGiven()
		first := call(x)
		if first[len(first)-1] != api.OK || reflect.ValueOf(first[0]).IsZero() && name != "Square" {
			t.Errorf("%s: nothing comes of it: %v", name, first)
		}
		told := fmt.Sprint(first...)
		for _, r := range call(x) {
			scribble(reflect.ValueOf(r))
		}
		if !reflect.DeepEqual(x.whole(), y.whole()) {
			t.Errorf("%s: the arguments are others: %v", name, x.whole())
		}
		want(t, name+" once more", fmt.Sprint(first...), told)
	}
	efforts, _ := match.Efforts(newGiven().s, newGiven().a)
	wanted := told(slices.Clone(efforts[1].At))
	scribble(reflect.ValueOf(efforts[0].At))
	want(t, "another effort", told(efforts[1].At), wanted)
}

// scribble writes over all memory that a value has, also over its unused capacity.
func scribble(v reflect.Value) {
	switch v.Kind() {
	case reflect.Slice:
		v = v.Slice3(0, v.Cap(), v.Cap())
		for i := range v.Len() {
			scribble(v.Index(i))
			v.Index(i).SetZero()
		}
	case reflect.Struct:
		for i := range v.NumField() {
			scribble(v.Field(i))
		}
	}
}

// TestE1ErrorsAlone asks whether all other results are zero with an error (Z3).
func TestE1ErrorsAlone(t *testing.T) {
	s, a := newGiven().s, newGiven().a
	bad := api.Segment{Name: "s"}
	two := func(x any, e api.Errno) []any { return []any{x, e} }
	three := func(x, y any, e api.Errno) []any { return []any{x, y, e} }
	effort, ok, e1 := match.Best(bad, a)
	tile, n, e2 := match.Square([]api.Tile{{X: 1}, {}})
	both, one, e3 := match.Shared([]api.Tile{{}}, []api.Tile{{}, {}})
	for name, l := range map[string][]any{
		"Turned":      two(match.Turned(bad)),
		"Crossings":   two(match.Crossings(s, wrong())),
		"Efforts":     two(match.Efforts(s, wrong())),
		"Best":        three(effort, ok, e1),
		"Places":      two(match.Places([]api.Score{{Name: "a", Time: 5}, {Name: "b"}})),
		"CellOf":      two(match.CellOf(pt(99, 99), 0)),
		"Tiles":       two(match.Tiles(a, 0)),
		"Tiles, many": two(match.Tiles(path(pt(0, 0), pt(100_000, 0)), 1)),
		"Square":      three(tile, n, e2),
		"Cluster":     two(match.Cluster([]api.Tile{{X: 1}, {}})),
		"Shared":      three(both, one, e3),
		"Spaced":      two(match.Spaced(a, 1)),
		"Apart":       two(match.Apart([]api.Point{pt(0, 0)}, []api.Point{pt(9, 9), pt(api.MaxPlace+1, 0)})),
	} {
		for _, x := range l[:len(l)-1] {
			if !reflect.ValueOf(x).IsZero() || l[len(l)-1] == api.OK {
				t.Errorf("%s: %v", name, l)
			}
		}
	}
}
