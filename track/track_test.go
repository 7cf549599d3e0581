package track_test

import (
	"fmt"
	"math/big"
	"math/rand"
	"reflect"
	"strings"
	"testing"

	"harrier/api"
	"harrier/record"
	"harrier/track"
)

// told writes results with spaces between; codes of errors as numbers.
func told(l ...any) string {
	for i, x := range l {
		if e, ok := x.(api.Errno); ok {
			l[i] = int(e)
		}
	}
	return strings.TrimSuffix(fmt.Sprintln(l...), "\n")
}

func want(t *testing.T, what, got, wanted string) {
	t.Helper()
	if got != wanted {
		t.Errorf("%s: got %q, want %q", what, got, wanted)
	}
}

// walk makes an activity of samples, with At, X, Y and Z each; what is left out is 0.
func walk(l ...[]int) api.Activity {
	a := api.Activity{Name: "walk", Sport: api.Walk, Start: 1000}
	for _, s := range l {
		s = append(s, 0, 0, 0)
		a.Samples = append(a.Samples, api.Sample{At: s[0], X: s[1], Y: s[2], Z: s[3], Pulse: -1, Power: -1, Steps: -1})
	}
	return a
}

// hills makes an activity of heights, a second apart.
func hills(l ...int) api.Activity {
	a := walk()
	for i, z := range l {
		a.Samples = append(a.Samples, api.Sample{At: i, Z: z})
	}
	return a
}

// long makes an activity of so many samples, a second and a decimetre apart.
func long(many int) api.Activity {
	a := walk()
	for i := range many {
		a.Samples = append(a.Samples, api.Sample{At: i, X: i})
	}
	return a
}

// random makes an activity of at most so many samples, whose places and heights are below size.
func random(r *rand.Rand, many, size int) api.Activity {
	a := api.Activity{Name: "random", Sport: api.Run, Start: r.Intn(1000)}
	at := 0
	for range r.Intn(many + 1) {
		x := api.Sample{At: at, X: r.Intn(size), Y: r.Intn(size), Z: r.Intn(min(size, api.MaxHeight)), Pulse: r.Intn(6) - 1, Power: r.Intn(3) - 1, Steps: max(r.Intn(9)-5, -1)}
		a.Samples = append(a.Samples, x)
		at += 1 + r.Intn(6)/(1+r.Intn(6))
	}
	end := 0
	for {
		x := api.Lap{From: end + r.Intn(3), Name: fmt.Sprint("lap ", len(a.Laps))}
		x.To = x.From + 1 + r.Intn(5)
		if x.To > record.Span(a) {
			break
		}
		a.Laps = append(a.Laps, x)
		end = x.To
	}
	for _, s := range []string{"a", "b", "c"} {
		if r.Intn(2) == 0 {
			a.Tags = append(a.Tags, s)
		}
	}
	return a
}

// randoms calls do with many activities, from small ones on.
func randoms(most, size int, do func(r *rand.Rand, a api.Activity)) {
	r := rand.New(rand.NewSource(1))
	for i := range 3000 {
		do(r, random(r, 1+i*most/3000, 1+r.Intn(size)))
	}
}

// quotient is a / b, rounded by Near.
func quotient(a, b int) int { return rounded(big.NewRat(int64(a), int64(b))) }

func rounded(x *big.Rat) int {
	x = new(big.Rat).Add(x, big.NewRat(1, 2))
	return int(new(big.Int).Div(x.Num(), x.Denom()).Int64()) // Div of big goes down, as Denom is above 0
}

// lists yields all lists of rising numbers below n, those that are less first.
func lists(n int, do func(l []int)) {
	var from func(l []int, next int)
	from = func(l []int, next int) {
		do(l)
		for i := next; i < n; i++ {
			from(append(l[:len(l):len(l)], i), i+1)
		}
	}
	from(nil, 0)
}

// calls has each function with an activity, with arguments that are right.
func calls() map[string]func(a api.Activity) []any {
	two := func(x any, e api.Errno) []any { return []any{x, e} }
	return map[string]func(a api.Activity) []any{
		"Ways":     func(a api.Activity) []any { return two(track.Ways(a)) },
		"Keep":     func(a api.Activity) []any { return two(track.Keep(a, 10)) },
		"Only":     func(a api.Activity) []any { return two(track.Only(a, []int{1, 2})) },
		"Level":    func(a api.Activity) []any { return two(track.Level(a, 1)) },
		"Fill":     func(a api.Activity) []any { return two(track.Fill(a, 1000)) },
		"Idle":     func(a api.Activity) []any { return two(track.Idle(a, 1)) },
		"Still":    func(a api.Activity) []any { return two(track.Still(a, 10, 1)) },
		"Moving":   func(a api.Activity) []any { return two(track.Moving(a, 1, 10, 1)) },
		"Climb":    func(a api.Activity) []any { return two(track.Climb(a, 1)) },
		"Hills":    func(a api.Activity) []any { return two(track.Hills(a, 1, 1)) },
		"Simple":   func(a api.Activity) []any { return two(track.Simple(a, 1)) },
		"Fewest":   func(a api.Activity) []any { return two(track.Fewest(a, 1)) },
		"At":       func(a api.Activity) []any { return two(track.At(a, 1)) },
		"Resample": func(a api.Activity) []any { return two(track.Resample(a, 2)) },
		"Cut":      func(a api.Activity) []any { return two(track.Cut(a, 1, 8)) },
		"Join, a":  func(a api.Activity) []any { return two(track.Join(a, later(a))) },
		"Join, b":  func(a api.Activity) []any { return two(track.Join(walk(), a)) },
		"Splits":   func(a api.Activity) []any { return two(track.Splits(a, 2)) },
	}
}

func later(a api.Activity) api.Activity {
	a.Start += 100
	return a
}

// full is an activity that has something of all kinds.
func full() api.Activity {
	a := walk([]int{0, 0, 0, 0}, []int{3, 4, 4, 9}, []int{6, 5, 5, 5}, []int{9, 5, 5, 6})
	a.Samples[0].Pulse, a.Samples[2].Pulse = 100, 110
	a.Samples[1].Power, a.Samples[3].Power = 200, 210
	a.Laps = []api.Lap{{From: 0, To: 4, Name: "one"}, {From: 4, To: 9, Name: "two"}}
	a.Tags = []string{"a", "b"}
	return a
}

// TestC1CheckComes first in each function, with the error of the activity's name, and nothing else as a result.
func TestC1CheckComes(t *testing.T) {
	for name, call := range calls() {
		a := full()
		a.Samples[2].At = 3
		l := call(a)
		want(t, name+" of a wrong activity", told(l[1]), told(api.ErrOrder))
		if x := reflect.ValueOf(l[0]); !x.IsZero() {
			t.Errorf("%s has a result beside the error: %v", name, l[0])
		}
	}
	for name, e := range wrongArguments() {
		a := full()
		a.Samples[2].At = 3
		want(t, name+", and a wrong activity", told(e(a)), told(api.ErrOrder))
		if got := e(full()); got == api.OK || got == api.ErrOrder && name != "Only" {
			t.Errorf("%s: got %d", name, got)
		}
	}
	b := full()
	b.Name, b.Sport = "", api.Ski
	c := full()
	c.Tags = []string{""}
	c.Sport = 0
	_, e := track.Join(b, c)
	want(t, "Join of two wrong ones", told(e), told(api.ErrName))
	_, e = track.Join(full(), c)
	want(t, "Join with a wrong one", told(e), told(api.ErrKind))
	c.Sport = api.Walk
	_, e = track.Join(full(), c)
	want(t, "Join with a wrong one", told(e), told(api.ErrName))
}

// wrongArguments has calls with an argument beside the activity that is wrong.
func wrongArguments() map[string]func(a api.Activity) api.Errno {
	return map[string]func(a api.Activity) api.Errno{
		"Keep":     func(a api.Activity) api.Errno { _, e := track.Keep(a, 0); return e },
		"Only":     func(a api.Activity) api.Errno { _, e := track.Only(a, []int{-1}); return e },
		"Level":    func(a api.Activity) api.Errno { _, e := track.Level(a, -1); return e },
		"Fill":     func(a api.Activity) api.Errno { _, e := track.Fill(a, -1); return e },
		"Idle":     func(a api.Activity) api.Errno { _, e := track.Idle(a, 0); return e },
		"Still":    func(a api.Activity) api.Errno { _, e := track.Still(a, -1, 1); return e },
		"Moving":   func(a api.Activity) api.Errno { _, e := track.Moving(a, 1, -1, 1); return e },
		"Climb":    func(a api.Activity) api.Errno { _, e := track.Climb(a, -1); return e },
		"Hills":    func(a api.Activity) api.Errno { _, e := track.Hills(a, 0, 0); return e },
		"Simple":   func(a api.Activity) api.Errno { _, e := track.Simple(a, -1); return e },
		"Fewest":   func(a api.Activity) api.Errno { _, e := track.Fewest(a, -1); return e },
		"At":       func(a api.Activity) api.Errno { _, e := track.At(a, -1); return e },
		"Resample": func(a api.Activity) api.Errno { _, e := track.Resample(a, 0); return e },
		"Cut":      func(a api.Activity) api.Errno { _, e := track.Cut(a, 1, 1); return e },
		"Splits":   func(a api.Activity) api.Errno { _, e := track.Splits(a, 0); return e },
	}
}

// TestC1OwnMemory asks whether arguments stay as they are, and whether results have memory of their own (Z2).
func TestC1OwnMemory(t *testing.T) {
	for name, call := range calls() {
		given, other := roomy(full()), roomy(full())
		first := call(given)
		told := fmt.Sprint(first...)
		for _, x := range call(given) {
			scribble(reflect.ValueOf(x))
		}
		if !reflect.DeepEqual(whole(given), whole(other)) {
			t.Errorf("%s: the argument is another one: %v", name, whole(given))
		}
		want(t, name+" once more", fmt.Sprint(first...), told)
	}
}

func roomy(a api.Activity) api.Activity {
	a.Samples = append(make([]api.Sample, 0, 9), a.Samples...)
	a.Laps = append(make([]api.Lap, 0, 9), a.Laps...)
	a.Tags = append(make([]string, 0, 9), a.Tags...)
	return a
}

// whole has the slices of an activity as long as their capacity is.
func whole(a api.Activity) api.Activity {
	a.Samples, a.Laps, a.Tags = a.Samples[:cap(a.Samples)], a.Laps[:cap(a.Laps)], a.Tags[:cap(a.Tags)]
	return a
}

// scribble writes over all memory that a value has, also over its unused capacity.
func scribble(v reflect.Value) {
	switch v.Kind() {
	case reflect.Slice:
		for i := range v.Cap() {
			x := v.Slice3(0, v.Cap(), v.Cap()).Index(i)
			scribble(x)
			x.SetZero()
			if x.CanInt() {
				x.SetInt(77)
			}
		}
	case reflect.Struct:
		for i := range v.NumField() {
			scribble(v.Field(i))
		}
	}
}

func TestLimits(t *testing.T) {
	want(t, "limits", told(track.MaxFast, track.MaxKeep, track.MaxSimple, track.MaxFewest, track.MaxWidth, track.MaxWay, track.MaxSplits), "100000 2000 5000 300 50 1000000000 10000")
}

// rangeCase is a call with a number, and from where to where this is right.
type rangeCase struct {
	what      string
	low, high int
	call      func(n int) api.Errno
}

func runRanges(t *testing.T, l []rangeCase) {
	t.Helper()
	for _, c := range l {
		for n, e := range map[int]api.Errno{c.low: api.OK, c.high: api.OK, c.low - 1: api.ErrRange, c.high + 1: api.ErrRange, -1 << 63: api.ErrRange, 1<<63 - 1: api.ErrRange} {
			want(t, fmt.Sprint(c.what, " ", n), told(c.call(n)), told(e))
		}
	}
}
