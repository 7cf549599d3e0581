package load_test

import (
	"fmt"
	"math"
	"math/big"
	"reflect"
	"slices"
	"strings"
	"testing"

	"harrier/api"
	"harrier/effort"
	"harrier/load"
)

// told writes results with spaces between; codes of errors as numbers.
func told(l ...any) string {
	for i, x := range l {
		if e, ok := x.(api.Errno); ok {
			l[i] = int(e)
		}
	}
	return strings.TrimSuffix(fmt.Sprintln(l...), "\n")
}

func want(t *testing.T, what, got, wanted string) {
	t.Helper()
	if got != wanted {
		t.Errorf("%s: got %q, want %q", what, got, wanted)
	}
}

// same makes a list of so many equal numbers.
func same(many, n int) []int { return slices.Repeat([]int{n}, many) }

// rising makes a list of so many numbers, by one more each.
func rising(from, many int) []int {
	l := make([]int, many)
	for i := range l {
		l[i] = from + i
	}
	return l
}

func number(n int) *big.Int { return big.NewInt(int64(n)) }

// floored returns a / b rounded down.
func floored(a, b *big.Int) *big.Int {
	q, r := new(big.Int).QuoRem(a, b, new(big.Int))
	if r.Sign() != 0 && r.Sign() != b.Sign() {
		q.Sub(q, number(1))
	}
	return q
}

func plus(a, b *big.Int) *big.Int  { return new(big.Int).Add(a, b) }
func minus(a, b *big.Int) *big.Int { return new(big.Int).Sub(a, b) }
func times(a, b *big.Int) *big.Int { return new(big.Int).Mul(a, b) }

func TestLimits(t *testing.T) {
	want(t, "limits", told(load.MaxTests, load.MaxTest, load.MaxWork, load.MaxLoad, load.MaxDays, load.MaxConst, load.MaxRaces, load.MaxWeights, load.Unit), "20 10000 100000000 10000 5000 1000 50 21 1000")
}

// rangeCase is a call with a number, and from where to where this is right.
type rangeCase struct {
	what      string
	low, high int
	call      func(n int) api.Errno
}

func runRanges(t *testing.T, l []rangeCase) {
	t.Helper()
	for _, c := range l {
		for n, e := range map[int]api.Errno{c.low: api.OK, c.high: api.OK, c.low - 1: api.ErrRange, c.high + 1: api.ErrRange, math.MinInt: api.ErrRange, math.MaxInt: api.ErrRange} {
			want(t, fmt.Sprint(c.what, " ", n), told(c.call(n)), told(e))
		}
	}
}

// given has arguments, with room behind their elements.
type given struct {
	tests              []api.Test
	races              []api.Race
	l, limits, weights []int
}

func newGiven() *given {
	return &given{
		tests:   roomy([]api.Test{{Seconds: 60, Work: 30000}, {Seconds: 300, Work: 90000}, {Seconds: 600, Work: 160000}}),
		races:   roomy([]api.Race{{Way: 10000, Seconds: 180}, {Way: 50000, Seconds: 1000}}),
		l:       roomy(append(same(40, 300), 100, -1, 200)),
		limits:  roomy([]int{50, 80}),
		weights: roomy([]int{1, 20, 300}),
	}
}

func roomy[T any](l []T) []T { return append(make([]T, 0, len(l)+9), l...) }

func all[T any](l []T) []T { return l[:cap(l)] }

// whole has the lists as long as their capacity is.
func (x *given) whole() given {
	return given{all(x.tests), all(x.races), all(x.l), all(x.limits), all(x.weights)}
}

// TestF1OwnMemory asks whether arguments stay as they are, and whether results have memory of their own (Z2).
func TestF1OwnMemory(t *testing.T) {
	two := func(x any, e api.Errno) []any { return []any{x, e} }
	three := func(x, y any, e api.Errno) []any { return []any{x, y, e} }
	calls := map[string]func(x *given) []any{
		"CheckTests": func(x *given) []any { return []any{load.CheckTests(x.tests)} },
		"Fit":        func(x *given) []any { p, w, e := load.Fit(x.tests); return three(p, w, e) },
		"Errors":     func(x *given) []any { return two(load.Errors(x.tests, 200, 9000)) },
		"Limits":     func(x *given) []any { return two(load.Limits(100, x.limits)) },
		"Power":      func(x *given) []any { n, ok, e := load.Power(x.l, 200); return three(n, ok, e) },
		"Pulse":      func(x *given) []any { return two(load.Pulse(x.l, x.limits, x.weights)) },
		"Series":     func(x *given) []any { return two(load.Series(x.weights, 42, 500)) },
		"Peak":       func(x *given) []any { return two(load.Peak(x.weights, 42, 500)) },
		"Balance":    func(x *given) []any { return two(load.Balance(x.l, 200, 900)) },
		"Empty":      func(x *given) []any { n, ok, e := load.Empty(x.l, 200, 900); return three(n, ok, e) },
		"CheckRaces": func(x *given) []any { return []any{load.CheckRaces(x.races)} },
		"Predict":    func(x *given) []any { return two(load.Predict(x.races, 90000, 60)) },
		"Reach":      func(x *given) []any { return two(load.Reach(x.races, 2000, 60)) },
	}
	for name, call := range calls {
		x, y := newGiven(), newGiven()
		first := call(x)
		if first[len(first)-1] != api.OK || len(first) > 1 && reflect.ValueOf(first[0]).IsZero() {
			t.Errorf("%s: nothing comes of it: %v", name, first)
		}
		told := fmt.Sprint(first...)
		for _, r := range call(x) {
			scribble(reflect.ValueOf(r))
		}
		if !reflect.DeepEqual(x.whole(), y.whole()) {
			t.Errorf("%s: the arguments are others: %v", name, x.whole())
		}
		want(t, name+" once more", fmt.Sprint(first...), told)
	}
}

// scribble writes over all memory that a list has, also over its unused capacity.
func scribble(v reflect.Value) {
	if v.Kind() != reflect.Slice {
		return
	}
	v = v.Slice3(0, v.Cap(), v.Cap())
	for i := range v.Len() {
		v.Index(i).SetZero()
	}
}

// TestF1ErrorsAlone asks whether all other results are zero with an error, or with a false (Z3).
func TestF1ErrorsAlone(t *testing.T) {
	x := newGiven()
	b := newBook(t, 5, 9, 9)
	two := func(x any, e api.Errno) []any { return []any{x, e} }
	three := func(x, y any, e api.Errno) []any { return []any{x, y, e} }
	power, work, e1 := load.Fit(append(x.tests, x.tests[0]))
	hard, ok2, e2 := load.Power(x.l, 0)
	least, ok3, e3 := load.Needed(9, 9, 9, -1)
	at, ok4, e4 := load.Empty(x.l, 100, 0)
	ratio, ok5, e5 := b.Ratio(4)
	none, e6 := load.NewBook(-1, 9, 9)
	for name, l := range map[string][]any{
		"Fit":            three(power, work, e1),
		"Errors":         two(load.Errors(append(x.tests, x.tests[0]), 1, 1)),
		"Errors, line":   two(load.Errors(x.tests, 1, -1)),
		"Limits":         two(load.Limits(1, []int{0, 100, 199})),
		"Power":          three(hard, ok2, e2),
		"Pulse":          two(load.Pulse(x.l, x.limits, []int{5, 5, 1001})),
		"Step":           two(load.Step(9, 9, 0)),
		"Series":         two(load.Series([]int{9, 9, -1}, 5, 5)),
		"Needed":         three(least, ok3, e3),
		"Peak":           two(load.Peak([]int{9, 9, 10001}, 5, 5)),
		"Balance":        two(load.Balance([]int{9, 9, 10001}, 5, 5)),
		"Empty":          three(at, ok4, e4),
		"Predict":        two(load.Predict(x.races, 0, 60)),
		"Predict, races": two(load.Predict(append(x.races, x.races[0]), 5, 60)),
		"Reach":          two(load.Reach(x.races, 5, 201)),
		"Reach, races":   two(load.Reach(append(x.races, x.races[0]), 5, 60)),
		"NewBook":        two(none, e6),
		"On":             two(b.On(4)),
		"Between":        two(b.Between(7, 6)),
		"Between, range": two(b.Between(6, 5005)),
		"Ratio":          three(ratio, ok5, e5),
	} {
		for _, x := range l[:len(l)-1] {
			if !reflect.ValueOf(x).IsZero() || l[len(l)-1] == api.OK {
				t.Errorf("%s: %v", name, l)
			}
		}
	}
}

// TestF1LongLists asks for ErrSize ahead of what is wrong with elements, also where lists go through another package.
func TestF1LongLists(t *testing.T) {
	long := same(effort.MaxStream+1, 10001)
	_, _, e1 := load.Power(long, 0)
	_, e2 := load.Pulse(long, []int{-1}, nil)
	_, e3 := load.Balance(long, 0, 0)
	_, _, e4 := load.Empty(long, 0, 0)
	_, e5 := load.Limits(200, same(effort.MaxZones+1, 1001))
	_, e6 := load.Pulse(nil, same(effort.MaxZones+1, 5), nil)
	want(t, "ErrSize", told(e1, e2, e3, e4, e5, e6), "3 3 3 3 3 3")
}
