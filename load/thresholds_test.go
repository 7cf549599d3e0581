package load_test

import (
	"fmt"
	"math/big"
	"math/rand"
	"slices"
	"testing"

	"harrier/api"
	"harrier/load"
)

// tests makes tests of seconds and work, one behind the other.
func tests(l ...int) []api.Test {
	var list []api.Test
	for i := 1; i < len(l); i += 2 {
		list = append(list, api.Test{Seconds: l[i-1], Work: l[i]})
	}
	return list
}

// manyTests makes so many tests that are right.
func manyTests(many int) []api.Test {
	var list []api.Test
	for i := range many {
		list = append(list, api.Test{Seconds: 1 + i, Work: i % 5})
	}
	return list
}

// someTests makes tests, up to the greatest ones that are right.
func someTests(r *rand.Rand) []api.Test {
	most := []int{25, 200, load.MaxTest}[r.Intn(3)]
	var list []api.Test
	for _, n := range r.Perm(most)[:r.Intn(load.MaxTests+1)] {
		list = append(list, api.Test{Seconds: 1 + n, Work: r.Intn([]int{5, 1000, load.MaxWork + 1}[r.Intn(3)])})
	}
	slices.SortFunc(list, func(x, y api.Test) int { return x.Seconds - y.Seconds })
	return list
}

func TestF1CheckTests(t *testing.T) {
	const most = load.MaxTests
	for _, c := range []struct {
		l    []api.Test
		want api.Errno
	}{
		{nil, api.OK}, {tests(1, 0), api.OK}, {tests(5, 9, 6, 8), api.OK}, {tests(5, 9, 5, 10), api.ErrOrder}, {tests(5, 9, 4, 10), api.ErrOrder},
		{manyTests(most), api.OK}, {manyTests(most + 1), api.ErrSize}, {make([]api.Test, most+1), api.ErrSize},
		{tests(5, 9, 5, -1), api.ErrRange}, {tests(5, 9, 5, 9, 0, 0), api.ErrOrder}, {tests(5, 9, 0, 0, 5, 9), api.ErrRange}, {tests(0, 0, 0, 0), api.ErrRange},
	} {
		want(t, fmt.Sprint("CheckTests ", c.l), told(load.CheckTests(c.l)), told(c.want))
		_, e := load.Errors(c.l, 5, 5)
		want(t, fmt.Sprint("Errors ", c.l), told(e), told(c.want))
		if _, _, e := load.Fit(c.l); c.want != api.OK || len(c.l) > 1 {
			want(t, fmt.Sprint("Fit ", c.l), told(e), told(c.want))
		}
	}
	runRanges(t, []rangeCase{
		{"Seconds", 1, load.MaxTest, func(n int) api.Errno { return load.CheckTests(tests(n, 5)) }},
		{"Work", 0, load.MaxWork, func(n int) api.Errno { return load.CheckTests(tests(5, n)) }},
		{"Work of the second one", 0, load.MaxWork, func(n int) api.Errno { return load.CheckTests(tests(5, 5, 6, n)) }},
	})
}

func TestF1Fit(t *testing.T) {
	for _, c := range []struct {
		l    []api.Test
		want string
	}{
		{nil, "{0 0} {0 0} 13"}, {tests(5, 5), "{0 0} {0 0} 13"}, {tests(0, 5), "{0 0} {0 0} 9"}, {tests(5, 5, 5, 5), "{0 0} {0 0} 10"},
		{tests(1, 1, 2, 2, 3, 4), "{3 2} {-2 3} 0"},
		{tests(60, 30000, 600, 165000), "{250 1} {15000 1} 0"},
		{tests(1, 0, 2, 0), "{0 1} {0 1} 0"}, {tests(1, 7, 9, 7, 10, 7), "{0 1} {7 1} 0"}, {tests(2, 6, 3, 9, 5, 15), "{3 1} {0 1} 0"},
		{tests(1, 9, 4, 7), "{-2 3} {29 3} 0"},
		{tests(9999, 100000000, 10000, 0), "{-100000000 1} {1000000000000 1} 0"},
		{tests(9999, 0, 10000, 100000000), "{100000000 1} {-999900000000 1} 0"},
	} {
		power, work, e := load.Fit(c.l)
		want(t, fmt.Sprint("Fit ", c.l), told(power, work, e), c.want)
	}
}

// isLowest reports whether a ratio is in lowest terms.
func isLowest(x api.Ratio) bool {
	part := new(big.Int).GCD(nil, nil, new(big.Int).Abs(number(x.Num)), number(x.Den))
	return x.Den > 0 && part.Cmp(number(1)) == 0
}

// TestF1LeastSquares asks whether the errors add up to 0, and so do those times the seconds: of no other line the sum of squares is as little.
func TestF1RatioOf(t *testing.T) {
	for _, c := range []struct {
		num, den int
		want     string
	}{
		{0, 1, "{0 1}"}, {0, 9, "{0 1}"}, {6, 4, "{3 2}"}, {-6, 4, "{-3 2}"}, {4, 6, "{2 3}"}, {8, 4, "{2 1}"}, {-8, 4, "{-2 1}"}, {7, 1, "{7 1}"}, {5, 0, "{0 0}"}, {0, 0, "{0 0}"}, {1 << 60, 1 << 59, "{2 1}"}, {17, 19, "{17 19}"},
	} {
		want(t, fmt.Sprint("RatioOf ", c.num, " ", c.den), told(load.RatioOf(c.num, c.den)), c.want)
	}
}

func TestF1LeastSquares(t *testing.T) {
	r := rand.New(rand.NewSource(1))
	for range 3000 {
		l := someTests(r)
		power, work, e := load.Fit(l)
		if len(l) < 2 {
			want(t, fmt.Sprint("Fit ", l), told(power, work, e), "{0 0} {0 0} 13")
			continue
		}
		if e != api.OK || !isLowest(power) || !isLowest(work) {
			t.Fatal("Fit ", l, ": ", power, work, e)
		}
		sum, moment := new(big.Rat), new(big.Rat)
		for _, x := range l {
			seconds := big.NewRat(int64(x.Seconds), 1)
			told := new(big.Rat).Mul(big.NewRat(int64(power.Num), int64(power.Den)), seconds)
			told.Add(told, big.NewRat(int64(work.Num), int64(work.Den)))
			off := told.Sub(big.NewRat(int64(x.Work), 1), told)
			sum.Add(sum, off)
			moment.Add(moment, off.Mul(off, seconds))
		}
		if sum.Sign() != 0 || moment.Sign() != 0 {
			t.Error("Fit ", l, ": ", power, work, " has the errors ", sum, " and ", moment)
		}
	}
}

func TestF1Errors(t *testing.T) {
	l := tests(1, 1, 2, 2, 3, 4)
	for _, c := range []struct {
		l           []api.Test
		power, work int
		want        string
	}{
		{l, 1, 0, "[0 0 1] 0"}, {l, 2, 5, "[-6 -7 -7] 0"}, {l, 0, 0, "[1 2 4] 0"}, {nil, 0, 0, "[] 0"}, {nil, -1, 0, "[] 9"}, {tests(5, 5, 5, 5), -1, 0, "[] 10"},
		{tests(60, 30000, 600, 165000), 250, 14000, "[1000 1000] 0"},
		{tests(10000, 0), 1000000, 1000000000, "[-11000000000] 0"}, {tests(1, 100000000), 0, 0, "[100000000] 0"},
	} {
		list, e := load.Errors(c.l, c.power, c.work)
		want(t, fmt.Sprint("Errors ", c.l, c.power, c.work), told(list, e), c.want)
	}
	runRanges(t, []rangeCase{
		{"power", 0, 1000000, func(n int) api.Errno { _, e := load.Errors(l, n, 5); return e }},
		{"work", 0, 1000000000, func(n int) api.Errno { _, e := load.Errors(l, 5, n); return e }},
	})
}

func TestF1Limits(t *testing.T) {
	for _, c := range []struct {
		threshold int
		percents  []int
		want      string
	}{
		{250, []int{50, 100}, "[125 250] 0"}, {250, nil, "[] 0"}, {3, []int{0, 50, 99, 100}, "[0 1 2 3] 0"}, {10000, []int{999, 1000}, "[99900 100000] 0"}, {200, rising(1, 20), told(evens(2, 20), 0)},
		{3, []int{50, 60}, "[] 10"}, {1, []int{0, 99}, "[] 10"}, {1, []int{99, 100}, "[0 1] 0"},
		{250, []int{1001}, "[] 9"}, {250, []int{5, 1001}, "[] 9"}, {250, []int{-1}, "[] 9"}, {250, []int{1000000001}, "[] 9"},
		{0, []int{5, 5}, "[] 9"}, {0, nil, "[] 9"}, {0, rising(1, 21), "[] 9"}, {250, rising(1, 21), "[] 3"},
		// CheckZones is done for all of them ahead of the 1000, and this ahead of the order of limits.
		{250, []int{1001, 1001}, "[] 10"}, {250, []int{1001, 5}, "[] 10"}, {3, []int{50, 60, 1001}, "[] 9"}, {250, []int{50, 50}, "[] 10"},
	} {
		l, e := load.Limits(c.threshold, c.percents)
		want(t, fmt.Sprint("Limits ", c.threshold, c.percents), told(l, e), c.want)
	}
	runRanges(t, []rangeCase{
		{"threshold", 1, 10000, func(n int) api.Errno { _, e := load.Limits(n, []int{100}); return e }},
		{"percent", 0, 1000, func(n int) api.Errno { _, e := load.Limits(100, []int{n}); return e }},
	})
}

// evens makes a list of so many numbers, by two more each.
func evens(from, many int) []int {
	l := rising(0, many)
	for i := range l {
		l[i] = from + 2*i
	}
	return l
}
