package effort_test

import (
	"fmt"
	"math"
	"math/rand"
	"reflect"
	"slices"
	"strings"
	"testing"

	"harrier/api"
	"harrier/effort"
	"harrier/record"
)

// told writes results with spaces between; codes of errors as numbers.
func told(l ...any) string {
	for i, x := range l {
		if e, ok := x.(api.Errno); ok {
			l[i] = int(e)
		}
	}
	return strings.TrimSuffix(fmt.Sprintln(l...), "\n")
}

func want(t *testing.T, what, got, wanted string) {
	t.Helper()
	if got != wanted {
		t.Errorf("%s: got %q, want %q", what, got, wanted)
	}
}

// walk makes an activity of samples, with At, X, Y and Z each; what is left out is 0.
func walk(l ...[]int) api.Activity {
	a := api.Activity{Name: "walk", Sport: api.Walk, Start: 1000}
	for _, s := range l {
		s = append(s, 0, 0, 0)
		a.Samples = append(a.Samples, api.Sample{At: s[0], X: s[1], Y: s[2], Z: s[3], Pulse: -1, Power: -1, Steps: -1})
	}
	return a
}

// full is an activity that has something of all kinds, and an idle step.
func full() api.Activity {
	a := walk([]int{0, 0, 0, 0}, []int{3, 30, 40, 10}, []int{64, 90, 120, 30}, []int{69, 90, 127, 25}, []int{70, 90, 137, 26})
	a.Samples[0].Pulse, a.Samples[1].Pulse, a.Samples[2].Pulse, a.Samples[3].Pulse = 100, 110, 120, 130
	a.Samples[0].Power, a.Samples[2].Power = 200, 0
	a.Samples[3].Steps, a.Samples[4].Steps = 80, 90
	a.Laps = []api.Lap{{From: 1, To: 3, Name: "one"}, {From: 3, To: 66, Name: "two"}, {From: 68, To: 70}}
	a.Tags = []string{"a", "b"}
	return a
}

// wrong is an activity that record.Check refuses, with an error that no function of this chapter has by itself.
func wrong() api.Activity {
	a := full()
	a.Name = ""
	return a
}

// random makes an activity of at most so many samples, some of whose steps have as many seconds as a step that is not idle can have, or more.
func random(r *rand.Rand, many int) api.Activity {
	a := api.Activity{Name: "random", Sport: api.Run, Start: r.Intn(1000)}
	at, size := 0, 1+r.Intn(300)
	for range r.Intn(many + 1) {
		a.Samples = append(a.Samples, api.Sample{At: at, X: r.Intn(size), Y: -r.Intn(size), Z: r.Intn(size) - size/2, Pulse: r.Intn(6) - 1, Power: r.Intn(3) - 1, Steps: max(r.Intn(9)-5, -1)})
		at += []int{1, 1, 1, 2, 3, 1 + r.Intn(20), 58 + r.Intn(5)}[r.Intn(7)]
	}
	end := 0
	for {
		x := api.Lap{From: end + r.Intn(30), Name: fmt.Sprint("lap ", len(a.Laps))}
		x.To = x.From + 1 + r.Intn(50)
		if x.To > record.Span(a) {
			return a
		}
		a.Laps = append(a.Laps, x)
		end = x.To
	}
}

// randoms calls do with many activities, from small ones on.
func randoms(do func(r *rand.Rand, a api.Activity)) {
	r := rand.New(rand.NewSource(1))
	for i := range 2000 {
		do(r, random(r, 1+i/200))
	}
}

// randomStream makes a stream of so many numbers up to most, with more or less of them unknown.
func randomStream(r *rand.Rand, many, most int) []int {
	l := make([]int, many)
	known := 1 + r.Intn(30)
	for i := range l {
		l[i] = r.Intn(most + 1)
		if r.Intn(known) == 0 {
			l[i] = -1
		}
	}
	return l
}

// streams calls do with many streams, from small ones on.
func streams(do func(r *rand.Rand, l []int)) {
	r := rand.New(rand.NewSource(2))
	for i := range 5000 {
		do(r, randomStream(r, r.Intn(1+i/100), 1+r.Intn(1+r.Intn(20))))
	}
}

// same makes a stream of so many seconds with the same value.
func same(many, value int) []int { return slices.Repeat([]int{value}, many) }

// rising makes a list of so many numbers, by one more each.
func rising(from, many int) []int {
	l := make([]int, many)
	for i := range l {
		l[i] = from + i
	}
	return l
}

func TestLimits(t *testing.T) {
	want(t, "limits", told(effort.MaxGap, effort.MaxSizes, effort.MaxZones, effort.MaxStream, effort.MaxValue, effort.MaxBook), "60 100 20 1000000 1000000000 5000")
}

// rangeCase is a call with a number, and from where to where this is right.
type rangeCase struct {
	what      string
	low, high int
	call      func(n int) api.Errno
}

func runRanges(t *testing.T, l []rangeCase) {
	t.Helper()
	for _, c := range l {
		for n, e := range map[int]api.Errno{c.low: api.OK, c.high: api.OK, c.low - 1: api.ErrRange, c.high + 1: api.ErrRange, math.MinInt: api.ErrRange, math.MaxInt: api.ErrRange} {
			want(t, fmt.Sprint(c.what, " ", n), told(c.call(n)), told(e))
		}
	}
}

func someCurve() []api.Best {
	return []api.Best{{Size: 1, Sum: 9, At: 4, Found: true}, {Size: 3}, {Size: 4, Sum: 8, Found: true}}
}

// TestD1OwnMemory asks whether arguments stay as they are, and whether results have memory of their own (Z2).
func TestD1OwnMemory(t *testing.T) {
	two := func(x any, e api.Errno) []any { return []any{x, e} }
	calls := map[string]func(x *given) []any{
		"Stream":    func(x *given) []any { return two(effort.Stream(x.a, api.StreamWay)) },
		"Best":      func(x *given) []any { return two(effort.Best(x.l, 2)) },
		"Curve":     func(x *given) []any { return two(effort.Curve(x.l, x.sizes)) },
		"Least":     func(x *given) []any { from, to, ok, e := effort.Least(x.l, 3); return []any{from, to, ok, e} },
		"Smooth":    func(x *given) []any { return two(effort.Smooth(x.l, 1)) },
		"Hard":      func(x *given) []any { n, ok, e := effort.Hard(x.l); return []any{n, ok, e} },
		"Zones":     func(x *given) []any { l, n, e := effort.Zones(x.l, x.sizes); return []any{l, n, e} },
		"PartOf":    func(x *given) []any { return two(effort.PartOf(x.a, 1, 5)) },
		"Parts":     func(x *given) []any { return two(effort.Parts(x.a)) },
		"EveryWay":  func(x *given) []any { return two(effort.EveryWay(x.a, 20)) },
		"EveryTime": func(x *given) []any { return two(effort.EveryTime(x.a, 20)) },
		"Merge":     func(x *given) []any { return two(effort.Merge(x.c, x.d)) },
		"Beats":     func(x *given) []any { return two(effort.Beats(x.c, x.d)) },
	}
	for name, call := range calls {
		x, y := newGiven(), newGiven()
		first := call(x)
		told := fmt.Sprint(first...)
		for _, r := range call(x) {
			scribble(reflect.ValueOf(r))
		}
		if !reflect.DeepEqual(x.whole(), y.whole()) {
			t.Errorf("%s: the arguments are others: %v", name, x.whole())
		}
		want(t, name+" once more", fmt.Sprint(first...), told)
	}
}

// given has arguments, with room behind their elements.
type given struct {
	a        api.Activity
	l, sizes []int
	c, d     []api.Best
}

func newGiven() *given {
	x := &given{a: full(), l: roomy([]int{1, 5, 2, -1, 9}), sizes: roomy([]int{1, 3}), c: roomy(someCurve()), d: roomy(someCurve()[:1])}
	x.a.Samples, x.a.Laps, x.a.Tags = roomy(x.a.Samples), roomy(x.a.Laps), roomy(x.a.Tags)
	return x
}

func roomy[T any](l []T) []T { return append(make([]T, 0, len(l)+9), l...) }

func all[T any](l []T) []T { return l[:cap(l)] }

// whole has the lists as long as their capacity is.
func (x *given) whole() given {
	y := given{x.a, all(x.l), all(x.sizes), all(x.c), all(x.d)}
	y.a.Samples, y.a.Laps, y.a.Tags = all(x.a.Samples), all(x.a.Laps), all(x.a.Tags)
	return y
}

// scribble writes over all memory that a list has, also over its unused capacity.
func scribble(v reflect.Value) {
	if v.Kind() != reflect.Slice {
		return
	}
	v = v.Slice3(0, v.Cap(), v.Cap())
	for i := range v.Len() {
		if x := v.Index(i); x.CanInt() {
			x.SetInt(77)
		} else {
			x.SetZero()
		}
	}
}
