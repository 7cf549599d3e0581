package effort_test

import (
	"fmt"
	"math/big"
	"math/rand"
	"slices"
	"testing"

	"harrier/api"
	"harrier/effort"
)

// sumOf returns the sum of the seconds, and whether all are known.
func sumOf(l []int) (int, bool) {
	sum := 0
	for _, n := range l {
		sum += n
	}
	return sum, !slices.Contains(l, -1)
}

// slowBest looks at all windows of a size.
func slowBest(l []int, size int) api.Best {
	best := api.Best{Size: size}
	for at := 0; at+size <= len(l); at++ {
		sum, known := sumOf(l[at : at+size])
		if known && (!best.Found || sum > best.Sum) {
			best = api.Best{Size: size, Sum: sum, At: at, Found: true}
		}
	}
	return best
}

func TestD2Best(t *testing.T) {
	l := []int{1, 5, 2, -1, 9, 1}
	for _, c := range []struct {
		l    []int
		size int
		want string
	}{
		{l, 1, "{1 9 4 true} 0"}, {l, 2, "{2 10 4 true} 0"}, {l, 3, "{3 8 0 true} 0"}, {l, 4, "{4 0 0 false} 0"}, {l, 6, "{6 0 0 false} 0"}, {l, 7, "{7 0 0 false} 0"}, {l, 1000000, "{1000000 0 0 false} 0"},
		{l, 0, "{0 0 0 false} 9"}, {l, -1, "{0 0 0 false} 9"}, {l, 1000001, "{0 0 0 false} 9"},
		{nil, 1, "{1 0 0 false} 0"}, {nil, 0, "{0 0 0 false} 9"}, {[]int{-1, -1}, 1, "{1 0 0 false} 0"},
		// A window of nothing is one too, and of equal ones it is the first one.
		{[]int{-1, 0, 0, 0}, 2, "{2 0 1 true} 0"}, {[]int{3, 1, 3, 1, 3}, 2, "{2 4 0 true} 0"}, {[]int{1, 3, -1, 3, 1}, 2, "{2 4 0 true} 0"},
	} {
		x, e := effort.Best(c.l, c.size)
		want(t, fmt.Sprint("Best ", c.size, " of ", c.l), told(x, e), c.want)
	}
	runRanges(t, []rangeCase{{"Best", 1, 1000000, func(n int) api.Errno { _, e := effort.Best(l, n); return e }}})
	streams(func(r *rand.Rand, l []int) {
		size := 1 + r.Intn(1+r.Intn(len(l)+2))
		x, e := effort.Best(l, size)
		want(t, fmt.Sprint("Best ", size, " of ", l), told(x, e), told(slowBest(l, size), api.OK))
	})
	x, e := effort.Best(same(1000000, 1000000000), 1000000)
	want(t, "the greatest window", told(x, e), "{1000000 1000000000000000 0 true} 0")
}

func TestD2Curve(t *testing.T) {
	l := []int{1, 5, 2, -1, 9, 1}
	for _, c := range []struct {
		sizes []int
		want  string
	}{
		{[]int{1, 3}, "[{1 9 4 true} {3 8 0 true}] 0"}, {[]int{1, 2, 4, 1000000}, "[{1 9 4 true} {2 10 4 true} {4 0 0 false} {1000000 0 0 false}] 0"},
		{nil, "[] 13"}, {rising(1, 101), "[] 3"}, {[]int{1, 0}, "[] 9"}, {[]int{2, 1}, "[] 10"},
	} {
		x, e := effort.Curve(l, c.sizes)
		want(t, fmt.Sprint("Curve ", c.sizes), told(x, e), c.want)
	}
	x, e := effort.Curve(nil, []int{1, 2})
	want(t, "Curve of nothing", told(x, e), "[{1 0 0 false} {2 0 0 false}] 0")
	// No window is better than the curve, and each value of the curve is reached.
	streams(func(r *rand.Rand, l []int) {
		sizes := rising(1, min(len(l)+1, 100))
		c, e := effort.Curve(l, sizes)
		want(t, fmt.Sprint("sizes of a curve of ", l), told(len(c), effort.CheckCurve(c), e), told(len(sizes), api.OK, api.OK))
		for i, size := range sizes {
			want(t, fmt.Sprint("the curve of ", l, " at ", size), told(c[i]), told(slowBest(l, size)))
		}
	})
	long := same(1000000, 7)
	c, e := effort.Curve(long, rising(999901, 100))
	want(t, "the curve of the longest stream", told(len(c), c[0], c[99], e), "100 {999901 6999307 0 true} {1000000 7000000 0 true} 0")
}

// slowLeast looks at all windows, the shortest ones first.
func slowLeast(l []int, least int) (from, to int, ok bool) {
	for size := 1; size <= len(l); size++ {
		for at := 0; at+size <= len(l); at++ {
			if sum, known := sumOf(l[at : at+size]); known && sum >= least {
				return at, at + size, true
			}
		}
	}
	return 0, 0, false
}

func TestD2Least(t *testing.T) {
	l := []int{1, 5, 2, -1, 9, 1}
	for _, c := range []struct {
		l    []int
		sum  int
		want string
	}{
		{l, 1, "0 1 true 0"}, {l, 2, "1 2 true 0"}, {l, 5, "1 2 true 0"}, {l, 6, "4 5 true 0"}, {l, 7, "4 5 true 0"}, {l, 10, "4 6 true 0"}, {l, 11, "0 0 false 0"},
		{[]int{1, 5, 2}, 7, "1 3 true 0"}, {[]int{1, 5, 2}, 8, "0 3 true 0"}, {[]int{4, 0, 4}, 8, "0 3 true 0"}, {[]int{0, 4, 4, 0, 4, 4}, 8, "1 3 true 0"}, {[]int{0, 0, 3}, 3, "2 3 true 0"}, {[]int{9, -1}, 9, "0 1 true 0"},
		{l, 1000000000000000, "0 0 false 0"}, {nil, 1, "0 0 false 0"}, {[]int{0, 0}, 1, "0 0 false 0"}, {[]int{-1}, 1, "0 0 false 0"},
		{l, 0, "0 0 false 9"}, {l, -1, "0 0 false 9"}, {l, 1000000000000001, "0 0 false 9"},
	} {
		from, to, ok, e := effort.Least(c.l, c.sum)
		want(t, fmt.Sprint("Least ", c.sum, " of ", c.l), told(from, to, ok, e), c.want)
	}
	runRanges(t, []rangeCase{{"Least", 1, 1000000000000000, func(n int) api.Errno { _, _, _, e := effort.Least(l, n); return e }}})
	streams(func(r *rand.Rand, l []int) {
		sum := 1 + r.Intn(1+r.Intn(100))
		from, to, ok, e := effort.Least(l, sum)
		x, y, z := slowLeast(l, sum)
		want(t, fmt.Sprint("Least ", sum, " of ", l), told(from, to, ok, e), told(x, y, z, api.OK))
	})
	from, to, ok, e := effort.Least(same(1000000, 1000000000), 1000000000000000)
	want(t, "the greatest sum", told(from, to, ok, e), "0 1000000 true 0")
}

// slowSmooth looks back from each second.
func slowSmooth(l []int, size int) []int {
	means := []int{}
	for i := range l {
		mean := -1
		if from := i + 1 - size; from >= 0 {
			if sum, known := sumOf(l[from : i+1]); known {
				mean = sum / size
			}
		}
		means = append(means, mean)
	}
	return means
}

func TestD2Smooth(t *testing.T) {
	l := []int{4, 6, -1, 5, 6, 8}
	for _, c := range []struct {
		size int
		want string
	}{
		{1, "[4 6 -1 5 6 8] 0"}, {2, "[-1 5 -1 -1 5 7] 0"}, {3, "[-1 -1 -1 -1 -1 6] 0"}, {4, "[-1 -1 -1 -1 -1 -1] 0"}, {1000000, "[-1 -1 -1 -1 -1 -1] 0"},
		{0, "[] 9"}, {-1, "[] 9"}, {1000001, "[] 9"},
	} {
		x, e := effort.Smooth(l, c.size)
		want(t, fmt.Sprint("Smooth ", c.size), told(x, e), c.want)
	}
	x, e := effort.Smooth(nil, 1)
	want(t, "Smooth of nothing", told(x, e), "[] 0")
	runRanges(t, []rangeCase{{"Smooth", 1, 1000000, func(n int) api.Errno { _, e := effort.Smooth(l, n); return e }}})
	streams(func(r *rand.Rand, l []int) {
		size := 1 + r.Intn(1+r.Intn(len(l)+2))
		x, e := effort.Smooth(l, size)
		want(t, fmt.Sprint("Smooth ", size, " of ", l), told(x, e), told(slowSmooth(l, size), api.OK))
	})
	x, e = effort.Smooth(same(1000000, 1000000000), 1000000)
	want(t, "the longest window", told(x[999998], x[999999], e), "-1 1000000000 0")
}

// slowHard has sums and cubes without a limit.
func slowHard(l []int) (int, bool) {
	cube := func(n int) *big.Int { return new(big.Int).Exp(big.NewInt(int64(n)), big.NewInt(3), nil) }
	sum, many := new(big.Int), int64(0)
	for _, n := range slowSmooth(l, 30) {
		if n >= 0 {
			sum.Add(sum, cube(n))
			many++
		}
	}
	if many == 0 {
		return 0, false
	}
	sum.Div(sum, big.NewInt(many))
	root := 0
	for cube(root+1).Cmp(sum) <= 0 {
		root++
	}
	return root, true
}

func TestD2Hard(t *testing.T) {
	for _, c := range []struct {
		what string
		l    []int
		want string
	}{
		{"nothing", nil, "0 false 0"},
		{"29 seconds", same(29, 10), "0 false 0"},
		{"30 seconds", same(30, 10), "10 true 0"},
		{"30 seconds of 0", same(30, 0), "0 true 0"},
		{"a gap", slices.Concat(same(29, 10), []int{-1}, same(29, 10)), "0 false 0"},
		{"behind a gap", slices.Concat(same(29, 10), []int{-1}, same(30, 11)), "11 true 0"},
		// The means are 0, 10, 20 and so on up to 300: their cubes are 216225000 together, and there are 31 of them.
		{"harder and harder", slices.Concat(same(30, 0), same(30, 300)), "191 true 0"},
		{"means are rounded down", append(same(29, 10), 9), "9 true 0"},
		// 1 and 2 have the cubes 1 and 8, together 9: a half of it is rounded down to 4, whose root is 1.
		{"roots are rounded down", append(same(30, 1), 31), "1 true 0"},
		{"the greatest numbers", same(40, 10000), "10000 true 0"},
		{"a greater number", append(same(40, 10000), 10001), "0 false 9"},
		{"a greater number in a short stream", []int{10001}, "0 false 9"},
		{"the greatest number of all", []int{1000000000}, "0 false 9"},
		{"a number that is none", []int{-2}, "0 false 9"},
	} {
		n, ok, e := effort.Hard(c.l)
		want(t, "Hard of "+c.what, told(n, ok, e), c.want)
	}
	r := rand.New(rand.NewSource(3))
	for range 300 {
		l := randomStream(r, r.Intn(200), 1+r.Intn(1+r.Intn(10000)))
		n, ok, e := effort.Hard(l)
		m, found := slowHard(l)
		want(t, fmt.Sprint("Hard of ", l), told(n, ok, e), told(m, found, api.OK))
	}
	n, ok, e := effort.Hard(same(1000000, 10000))
	want(t, "Hard of the longest stream", told(n, ok, e), "10000 true 0")
}

// TestD2HardRoots has streams whose mean cube is each cube up to the greatest one.
func TestD2HardRoots(t *testing.T) {
	for n := range 10001 {
		got, ok, e := effort.Hard(same(30, n))
		want(t, fmt.Sprint("Hard of 30 times ", n), told(got, ok, e), told(n, true, api.OK))
	}
}
