package match_test

import (
	"cmp"
	"fmt"
	"math/big"
	"math/rand"
	"slices"
	"strings"
	"testing"

	"harrier/api"
	"harrier/match"
	"harrier/track"
)

func gate(ax, ay, bx, by int) api.Gate { return api.Gate{A: pt(ax, ay), B: pt(bx, by)} }

func segment(l ...api.Gate) api.Segment { return api.Segment{Name: "s", Gates: l} }

func TestE1CheckSegment(t *testing.T) {
	const far = api.MaxPlace
	ok, flat := gate(0, 0, 1, 0), gate(3, 3, 3, 3)
	for _, c := range []struct {
		name  string
		gates []api.Gate
		want  api.Errno
	}{
		{"s", []api.Gate{ok, ok}, api.OK},
		{strings.Repeat("s", 60), slices.Repeat([]api.Gate{ok}, 50), api.OK},
		{"s", []api.Gate{gate(far, far, -far, -far), gate(-far, 0, 0, far)}, api.OK},
		{"", nil, api.ErrName}, {"a b", []api.Gate{ok, ok}, api.ErrName}, {strings.Repeat("s", 61), []api.Gate{flat, flat}, api.ErrName},
		{"s", nil, api.ErrSize}, {"s", []api.Gate{ok}, api.ErrSize}, {"s", []api.Gate{flat}, api.ErrSize}, {"s", slices.Repeat([]api.Gate{flat}, 51), api.ErrSize},
		{"s", []api.Gate{ok, gate(far+1, 0, 0, 0)}, api.ErrRange}, {"s", []api.Gate{ok, gate(-far-1, 0, 0, 0)}, api.ErrRange},
		{"s", []api.Gate{gate(0, far+1, 0, 0), ok}, api.ErrRange}, {"s", []api.Gate{gate(0, -far-1, 0, 0), flat}, api.ErrRange},
		{"s", []api.Gate{ok, gate(0, 0, far+1, 0)}, api.ErrRange}, {"s", []api.Gate{ok, gate(0, 0, -far-1, 0)}, api.ErrRange},
		{"s", []api.Gate{ok, gate(0, 0, 0, far+1)}, api.ErrRange}, {"s", []api.Gate{ok, gate(0, 0, 0, -far-1)}, api.ErrRange},
		{"s", []api.Gate{ok, gate(far+1, 0, far+1, 0)}, api.ErrRange}, {"s", []api.Gate{ok, gate(-1<<63, 1<<63-1, 0, 0)}, api.ErrRange},
		{"s", []api.Gate{ok, flat}, api.ErrForm}, {"s", []api.Gate{flat, gate(far+1, 0, 0, 0)}, api.ErrForm}, {"s", []api.Gate{gate(0, 0, 0, 1), gate(far, far, far, far)}, api.ErrForm},
	} {
		s := api.Segment{Name: c.name, Gates: c.gates}
		want(t, fmt.Sprint("CheckSegment ", s), told(match.CheckSegment(s)), told(c.want))
		_, e := match.Turned(s)
		want(t, fmt.Sprint("Turned ", s), told(e), told(c.want))
		_, e = match.Crossings(s, path())
		want(t, fmt.Sprint("Crossings ", s), told(e), told(c.want))
	}
}

func TestE1SegmentsFirst(t *testing.T) {
	for _, c := range []struct {
		s    api.Segment
		a    api.Activity
		want api.Errno
	}{
		{segment(gate(0, 0, 1, 1)), wrong(), api.ErrSize},
		{segment(gate(0, 0, 1, 1), gate(2, 2, 2, 2)), wrong(), api.ErrForm},
		{segment(gate(0, 0, 1, 1), gate(2, 2, 2, 3)), wrong(), api.ErrKind},
		{segment(gate(0, 0, 1, 1), gate(2, 2, 2, 3)), walk([3]int{1, 0, 0}), api.ErrOrder},
	} {
		_, e := match.Crossings(c.s, c.a)
		want(t, "Crossings", told(e), told(c.want))
		_, e = match.Efforts(c.s, c.a)
		want(t, "Efforts", told(e), told(c.want))
		_, _, e = match.Best(c.s, c.a)
		want(t, "Best", told(e), told(c.want))
	}
}

func TestE1Turned(t *testing.T) {
	s := api.Segment{Name: "x.y", Gates: []api.Gate{gate(1, 2, 3, 4), gate(5, 6, 7, 8), gate(9, 10, 11, 12)}}
	back, e := match.Turned(s)
	want(t, "Turned", told(back, e), "{x.y [{{11 12} {9 10}} {{7 8} {5 6}} {{3 4} {1 2}}]} 0")
	again, e := match.Turned(back)
	want(t, "Turned twice", told(again, e), told(s, 0))
}

func TestE2Crossings(t *testing.T) {
	across, other := gate(0, 10, 0, -10), gate(50, 10, 50, -10)
	for _, c := range []struct {
		what string
		s    api.Segment
		a    api.Activity
		want string
	}{
		{"there and back", segment(across, other), walk([3]int{0, -5, 0}, [3]int{10, 5, 0}, [3]int{20, -5, 0}), "[{0 0 5000}]"},
		{"turned", segment(gate(0, -10, 0, 10), other), walk([3]int{0, -5, 0}, [3]int{10, 5, 0}, [3]int{20, -5, 0}), "[{0 1 15000}]"},
		{"no sample", segment(across, other), walk(), "[]"},
		{"one sample on it", segment(across, other), walk([3]int{0, 0, 0}), "[]"},
		{"up to it, and on", segment(across, other), walk([3]int{0, -5, 0}, [3]int{3, 0, 0}, [3]int{9, 5, 0}), "[{0 0 3000}]"},
		{"up to it, and back", segment(across, other), walk([3]int{0, -5, 0}, [3]int{3, 0, 0}, [3]int{9, -5, 0}, [3]int{12, 1, 0}), "[{0 0 3000} {0 2 11500}]"},
		{"along it", segment(across, other), walk([3]int{0, 0, -20}, [3]int{3, 0, 0}, [3]int{9, 0, 20}), "[]"},
		{"to the place A", segment(across, other), walk([3]int{0, -5, 10}, [3]int{5, 5, 10}), "[{0 0 2500}]"},
		{"to the place B", segment(across, other), walk([3]int{0, -5, -20}, [3]int{5, 5, 0}), "[{0 0 2500}]"},
		{"past A", segment(across, other), walk([3]int{0, -5, 10}, [3]int{5, 5, 11}), "[]"},
		{"past B", segment(across, other), walk([3]int{0, -5, -20}, [3]int{5, 5, -1}), "[]"},
		{"rounded down", segment(across, other), walk([3]int{0, -2, 0}, [3]int{10, 1, 0}), "[{0 0 6666}]"},
		{"both in a step", segment(other, across), walk([3]int{0, -50, 0}, [3]int{2, 150, 0}), "[{1 0 500} {0 0 1000}]"},
		{"the same gate twice", segment(across, across), walk([3]int{0, -50, 0}, [3]int{2, 150, 0}), "[{0 0 500} {1 0 500}]"},
	} {
		l, e := match.Crossings(c.s, c.a)
		want(t, c.what, told(l, e), c.want+" 0")
	}
}

// TestE2ExactTimes: of two gates that are crossed in one thousandth of a second the later one stands ahead in the segment.
func TestE2ExactTimes(t *testing.T) {
	const far = api.MaxPlace
	s := segment(gate(1, 10, 1, -10), gate(0, 10, 0, -10), gate(1, 20, 1, -20))
	l, e := match.Crossings(s, walk([3]int{0, -far, 0}, [3]int{1, far, 0}))
	want(t, "Crossings", told(l, e), "[{1 0 500} {0 0 500} {2 0 500}] 0")
	// The sides are as great as they can be, and their products far beyond an int.
	s = segment(gate(-far+2, far, -far+1, -far), gate(-far+1, far, -far+1, -far), gate(-far+1, far, -far+2, -far), gate(far, far, far, -far))
	l, e = match.Crossings(s, walk([3]int{0, -far, 0}, [3]int{1_000_000, far, 0}))
	want(t, "Crossings", told(l, e), "[{1 0 5} {0 0 7} {2 0 7} {3 0 1000000000}] 0")
}

// someGate makes a gate with places up to size.
func someGate(r *rand.Rand, size int) api.Gate {
	g := api.Gate{A: somePoint(r, size), B: somePoint(r, size)}
	if g.A == g.B {
		return someGate(r, size)
	}
	return g
}

func someSegment(r *rand.Rand, many, size int) api.Segment {
	s := segment()
	for range many {
		s.Gates = append(s.Gates, someGate(r, size))
	}
	return s
}

func number(n int) *big.Rat { return big.NewRat(int64(n), 1) }

// exactSide is the side of p for somebody who goes from a to b.
func exactSide(a, b, p api.Point) *big.Rat {
	x := new(big.Rat).Mul(number(b.X-a.X), number(p.Y-a.Y))
	return x.Sub(x, new(big.Rat).Mul(number(b.Y-a.Y), number(p.X-a.X)))
}

func floorOf(x *big.Rat) int { return int(new(big.Int).Div(x.Num(), x.Denom()).Int64()) } // Div of big goes down, as Denom is above 0

// exactCrossings finds the crossings one by one, with the times of each as fractions.
func exactCrossings(s api.Segment, a api.Activity) []api.Crossing {
	type timed struct {
		api.Crossing
		at *big.Rat
	}
	var list []timed
	for i := range len(a.Samples) - 1 {
		from, to := a.Samples[i], a.Samples[i+1]
		p, q := pt(from.X, from.Y), pt(to.X, to.Y)
		for k, g := range s.Gates {
			before, behind := exactSide(g.A, g.B, p), exactSide(g.A, g.B, q)
			if before.Sign() >= 0 || behind.Sign() < 0 || exactSide(p, q, g.A).Sign()*exactSide(p, q, g.B).Sign() > 0 {
				continue
			}
			part := new(big.Rat).Quo(before, new(big.Rat).Sub(before, behind))
			at := new(big.Rat).Add(number(1000*from.At), part.Mul(part, number(1000*(to.At-from.At))))
			list = append(list, timed{api.Crossing{Gate: k, Step: i, At: floorOf(at)}, at})
		}
	}
	slices.SortFunc(list, func(x, y timed) int {
		return cmp.Or(cmp.Compare(x.Step, y.Step), x.at.Cmp(y.at), cmp.Compare(x.Gate, y.Gate))
	})
	var l []api.Crossing
	for _, x := range list {
		l = append(l, x.Crossing)
	}
	return l
}

func TestE2ExactCrossings(t *testing.T) {
	r := rand.New(rand.NewSource(2))
	many := 0
	for i := range 3000 {
		size := []int{2, 4, 9, 1000, api.MaxPlace}[i%5]
		gates := 2 + r.Intn(4)
		if i%20 == 0 { // many gates, and few times at which they are crossed
			gates = match.MaxGates
		}
		s, a := someSegment(r, gates, size), someWalk(r, r.Intn(12), size, 1+r.Intn(9000))
		l, e := match.Crossings(s, a)
		want(t, fmt.Sprint("Crossings ", s, a.Samples), told(l, e), told(exactCrossings(s, a), 0))
		many += len(l)
	}
	if many < 5000 {
		t.Error("only so many crossings: ", many)
	}
}

func TestE2Many(t *testing.T) {
	s := segment(slices.Repeat([]api.Gate{gate(0, 10, 0, -10)}, match.MaxGates)...)
	a := walk()
	for i := range api.MaxSamples {
		a.Samples = append(a.Samples, api.Sample{At: i, X: i%2*10 - 5})
	}
	l, e := match.Crossings(s, a)
	want(t, "Crossings", told(len(l), l[0], l[len(l)-1], e), "500000 {0 0 500} {49 19998 19998500} 0")
	efforts, e := match.Efforts(s, a)
	want(t, "Efforts", told(len(efforts), len(efforts[9999].At), e), "10000 50 0")
}

// lines makes a segment of gates that are crossed by who goes to the east, at twice each number.
func lines(l ...int) api.Segment {
	s := segment()
	for _, x := range l {
		s.Gates = append(s.Gates, gate(2*x, 5, 2*x, -5))
	}
	return s
}

func TestE3Efforts(t *testing.T) {
	ab, abc := lines(0, 10), lines(0, 10, 20)
	for _, c := range []struct {
		what string
		s    api.Segment
		a    api.Activity
		want string
	}{
		{"none", ab, walk(), "[]"},
		{"in one step", ab, walk([3]int{0, -20, 0}, [3]int{60, 40, 0}), "[{[20000 40000]}]"},
		{"three in one step", abc, walk([3]int{0, -20, 0}, [3]int{60, 40, 0}), "[{[20000 40000 60000]}]"},
		{"just the first gate", ab, walk([3]int{0, -20, 0}, [3]int{39, 19, 0}), "[]"},
		{"up to the last gate", ab, walk([3]int{0, -20, 0}, [3]int{40, 20, 0}), "[{[20000 40000]}]"},
		{"just the last gate", ab, walk([3]int{0, 1, 0}, [3]int{40, 41, 0}), "[]"},
		{"the first gate again: the earlier one is forgotten", ab, walk([3]int{0, -1, 0}, [3]int{2, 1, 0}, [3]int{4, -1, 0}, [3]int{26, 21, 0}), "[{[5000 25000]}]"},
		{"the last gate again: no effort is begun", ab, walk([3]int{0, -1, 0}, [3]int{22, 21, 0}, [3]int{24, 19, 0}, [3]int{26, 21, 0}), "[{[1000 21000]}]"},
		{"the middle gate again: the first time counts", abc, walk([3]int{0, -1, 0}, [3]int{22, 21, 0}, [3]int{24, 19, 0}, [3]int{46, 41, 0}), "[{[1000 21000 45000]}]"},
		{"without the middle gate", abc, walk([3]int{0, -1, 0}, [3]int{9, 8, 0}, [3]int{10, 8, 9}, [3]int{22, 22, 9}, [3]int{23, 22, 0}, [3]int{46, 45, 0}), "[]"},
		{"the middle gate at last", abc, walk([3]int{0, -1, 0}, [3]int{9, 8, 0}, [3]int{10, 8, 9}, [3]int{22, 22, 9}, [3]int{23, 22, 0}, [3]int{46, 45, 0}, [3]int{56, 15, 0}, [3]int{86, 45, 0}), "[{[1000 61000 81000]}]"},
		{"twice", ab, walk([3]int{0, -1, 0}, [3]int{22, 21, 0}, [3]int{44, -1, 0}, [3]int{55, 21, 0}), "[{[1000 21000]} {[44500 54500]}]"},
		{"the first gate twice", segment(gate(0, 5, 0, -5), gate(0, 5, 0, -5)), walk([3]int{0, -1, 0}, [3]int{2, 1, 0}), "[{[1000 1000]}]"},
		{"there, and not back", ab, walk([3]int{0, 40, 0}, [3]int{60, -20, 0}), "[]"},
	} {
		l, e := match.Efforts(c.s, c.a)
		want(t, c.what, told(l, e), c.want+" 0")
	}
}

func TestE3Best(t *testing.T) {
	ab := lines(0, 10)
	to, fro := 21, -1
	for _, c := range []struct {
		what string
		a    api.Activity
		want string
	}{
		{"none", walk([3]int{0, fro, 0}, [3]int{5, 8, 0}), "{[]} false 0"},
		{"one", walk([3]int{0, fro, 0}, [3]int{22, to, 0}), "{[1000 21000]} true 0"},
		{"the later one", walk([3]int{0, fro, 0}, [3]int{22, to, 0}, [3]int{44, fro, 0}, [3]int{55, to, 0}), "{[44500 54500]} true 0"},
		{"the earlier one", walk([3]int{0, fro, 0}, [3]int{11, to, 0}, [3]int{44, fro, 0}, [3]int{66, to, 0}), "{[500 10500]} true 0"},
		{"of equal ones the first one", walk([3]int{0, fro, 0}, [3]int{33, to, 0}, [3]int{44, fro, 0}, [3]int{55, to, 0}, [3]int{66, fro, 0}, [3]int{77, to, 0}), "{[44500 54500]} true 0"},
	} {
		x, ok, e := match.Best(ab, c.a)
		want(t, c.what, told(x, ok, e), c.want)
	}
}

// followed finds the efforts from each crossing of gate 0 on, up to the next one.
func followed(gates int, l []api.Crossing) []api.Effort {
	var list []api.Effort
	for i, x := range l {
		if x.Gate != 0 {
			continue
		}
		at := []int{x.At}
		for _, y := range l[i+1:] {
			if y.Gate == 0 || len(at) == gates {
				break
			}
			if y.Gate == len(at) {
				at = append(at, y.At)
			}
		}
		if len(at) == gates {
			list = append(list, api.Effort{At: at})
		}
	}
	return list
}

// TestE3Followed compares efforts with those that are looked for from each beginning on, and Best with all of them.
func TestE3Followed(t *testing.T) {
	r := rand.New(rand.NewSource(3))
	found := 0
	for i := range 3000 {
		s, a := someSegment(r, 2+i%3, 6), someWalk(r, r.Intn(60), 6, 1)
		l, e := match.Efforts(s, a)
		wanted := followed(len(s.Gates), exactCrossings(s, a))
		want(t, fmt.Sprint("Efforts ", s, a.Samples), told(l, e), told(wanted, 0))
		best := api.Effort{}
		for k := len(wanted) - 1; k >= 0; k-- {
			if best.At == nil || last(wanted[k]) <= last(best) {
				best = wanted[k]
			}
		}
		x, ok, e := match.Best(s, a)
		want(t, fmt.Sprint("Best ", s, a.Samples), told(x, ok, e), told(best, len(wanted) > 0, 0))
		found += len(l)
	}
	if found < 2000 {
		t.Error("only so many efforts: ", found)
	}
}

// last is how long an effort took.
func last(x api.Effort) int { return x.At[len(x.At)-1] - x.At[0] }

// TestE3AnySamples: a sample more, just where and when somebody was between two others, changes no effort.
func TestE3AnySamples(t *testing.T) {
	r := rand.New(rand.NewSource(4))
	found := 0
	for i := range 1500 {
		s, a := someSegment(r, 2+i%2, 40), someWalk(r, 2+r.Intn(30), 4, 12)
		for k := range a.Samples {
			a.Samples[k].X, a.Samples[k].Y = 12*a.Samples[k].X, 12*a.Samples[k].Y
		}
		l, e := match.Efforts(s, a)
		more := a
		more.Samples = nil
		for k, p := range a.Samples {
			more.Samples = append(more.Samples, p)
			for part := 1; part < 12 && k+1 < len(a.Samples); part++ {
				if q := a.Samples[k+1]; r.Intn(4) == 0 {
					more.Samples = append(more.Samples, api.Sample{At: p.At + (q.At-p.At)/12*part, X: p.X + (q.X-p.X)/12*part, Y: p.Y + (q.Y-p.Y)/12*part})
				}
			}
		}
		other, e2 := match.Efforts(s, more)
		want(t, fmt.Sprint("Efforts ", s, more.Samples), told(other, e2), told(l, e))
		found += len(l)
	}
	if found < 500 {
		t.Error("only so many efforts: ", found)
	}
}

// TestE3Parts: an effort is also found in a part of the activity that has all of its steps.
func TestE3Parts(t *testing.T) {
	r := rand.New(rand.NewSource(5))
	found := 0
	for range 500 {
		s, a := someSegment(r, 2, 6), someWalk(r, 2+r.Intn(30), 6, 1)
		l, _ := match.Efforts(s, a)
		for _, x := range l {
			from, to := 0, len(a.Samples)-1
			for a.Samples[from+1].At*1000 <= x.At[0] {
				from++
			}
			for a.Samples[to-1].At*1000 > x.At[len(x.At)-1] {
				to--
			}
			from, to = max(from-1, 0), min(to+1, len(a.Samples)-1) // a gate can be crossed at the end of a step
			part, e := track.Cut(a, a.Samples[from].At, a.Samples[to].At)
			if e != api.OK {
				t.Fatal(e)
			}
			moved := api.Effort{}
			for _, at := range x.At {
				moved.At = append(moved.At, at-1000*a.Samples[from].At)
			}
			parts, e := match.Efforts(s, part)
			if !slices.ContainsFunc(parts, func(y api.Effort) bool { return slices.Equal(y.At, moved.At) }) {
				t.Errorf("%v is not in %v, %d", moved, parts, e)
			}
			found++
		}
	}
	if found < 300 {
		t.Error("only so many efforts: ", found)
	}
}
