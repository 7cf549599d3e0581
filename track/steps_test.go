package track_test

import (
	"fmt"
	"math"
	"math/big"
	"math/rand"
	"slices"
	"testing"

	"harrier/api"
	"harrier/track"
)

// squares is the sum of the squares of what X and Y change.
func squares(p, q api.Sample) *big.Int {
	x, y := big.NewInt(int64(q.X)-int64(p.X)), big.NewInt(int64(q.Y)-int64(p.Y))
	return x.Add(x.Mul(x, x), y.Mul(y, y))
}

// checkLength asks whether n is the greatest number whose square is not above the sum of squares.
func checkLength(t *testing.T, p, q api.Sample, n int) {
	t.Helper()
	sum, low, high := squares(p, q), big.NewInt(int64(n)), big.NewInt(int64(n)+1)
	if n < 0 || low.Mul(low, low).Cmp(sum) > 0 || high.Mul(high, high).Cmp(sum) <= 0 {
		t.Errorf("from %v to %v it is not %d", p, q, n)
	}
}

func length(p, q api.Sample) int { return int(new(big.Int).Sqrt(squares(p, q)).Int64()) }

func TestC1Step(t *testing.T) {
	for _, c := range []struct {
		p, q api.Sample
		want string
	}{
		{api.Sample{}, api.Sample{}, "0 0"},
		{api.Sample{}, api.Sample{X: 3, Y: 4}, "5 0"},
		{api.Sample{X: 1, Y: -1}, api.Sample{X: -2, Y: 3}, "5 0"},
		{api.Sample{X: 1}, api.Sample{Y: 1}, "1 0"},
		{api.Sample{Z: 100}, api.Sample{X: -2, Z: -100}, "2 0"},
		{api.Sample{At: -7, Z: math.MaxInt, Pulse: -9}, api.Sample{At: -8, Y: 7, Z: math.MinInt}, "7 0"},
		{api.Sample{X: -100000000, Y: -100000000}, api.Sample{X: 100000000, Y: 100000000}, "282842712 0"},
	} {
		n, e := track.Step(c.p, c.q)
		want(t, fmt.Sprint("from ", c.p, " to ", c.q), told(n, e), c.want)
	}
	for _, n := range []int{api.MaxPlace + 1, -api.MaxPlace - 1, math.MaxInt, math.MinInt} {
		for _, p := range []api.Sample{{X: n}, {Y: n}} {
			m, e := track.Step(p, api.Sample{})
			want(t, fmt.Sprint("from ", p), told(m, e), "0 9")
			m, e = track.Step(api.Sample{}, p)
			want(t, fmt.Sprint("to ", p), told(m, e), "0 9")
			m, e = track.Step(p, p)
			want(t, fmt.Sprint("at ", p), told(m, e), "0 9")
		}
	}
	r := rand.New(rand.NewSource(1))
	for range 10000 {
		size := 1 << (1 + r.Intn(27))
		place := func() api.Sample {
			return api.Sample{X: min(r.Intn(size)-size/2, api.MaxPlace), Y: min(r.Intn(size)-size/2, api.MaxPlace)}
		}
		p, q := place(), place()
		n, e := track.Step(p, q)
		want(t, "error", told(e), "0")
		checkLength(t, p, q, n)
	}
}

func TestC1Ways(t *testing.T) {
	l, e := track.Ways(walk([]int{0, 0, 0}, []int{10, 30, 40}, []int{20, 60, 0}))
	want(t, "the example", told(l, e), "[0 50 100] 0")
	l, e = track.Ways(walk())
	want(t, "without samples", told(l, e), "[] 0")
	l, e = track.Ways(walk([]int{0, 5, 5}))
	want(t, "one sample", told(l, e), "[0] 0")
	// Each step is rounded down, not their sum.
	l, e = track.Ways(walk([]int{0, 0, 0}, []int{1, 1, 1}, []int{2, 2, 2}, []int{3, 2, 2}, []int{4, 3, 3}))
	want(t, "roots of 2", told(l, e), "[0 1 2 2 3] 0")
	randoms(40, 100, func(r *rand.Rand, a api.Activity) {
		l, e := track.Ways(a)
		want(t, "error and length", told(len(l), e), told(len(a.Samples), api.OK))
		for i := range l {
			if i == 0 {
				want(t, "the first way", told(l[0]), "0")
			} else {
				checkLength(t, a.Samples[i-1], a.Samples[i], l[i]-l[i-1])
			}
		}
	})
	far := walk()
	for i := range api.MaxSamples {
		side := api.MaxPlace - 2*api.MaxPlace*(i%2)
		far.Samples = append(far.Samples, api.Sample{At: i, X: side, Y: -side})
	}
	l, e = track.Ways(far)
	want(t, "the longest way", told(l[len(l)-1], e), told(282842712*(api.MaxSamples-1), api.OK))
}

// slowSplits looks for each multiple of way by itself.
func slowSplits(a api.Activity, way int) []api.Split {
	var list []api.Split
	ways, _ := track.Ways(a)
	for d := way; len(ways) > 0 && d <= ways[len(ways)-1]; d += way {
		i := slices.IndexFunc(ways, func(n int) bool { return n >= d })
		p, q := a.Samples[i-1], a.Samples[i]
		x := new(big.Rat).Mul(big.NewRat(int64(d-ways[i-1]), int64(ways[i]-ways[i-1])), big.NewRat(int64(1000*(q.At-p.At)), 1))
		x.Add(x, big.NewRat(int64(1000*p.At), 1))
		up := new(big.Int).Neg(new(big.Int).Div(new(big.Int).Neg(x.Num()), x.Denom()))
		list = append(list, api.Split{Way: d, At: int(up.Int64())})
	}
	return list
}

func TestC11Splits(t *testing.T) {
	a := walk([]int{0, 0, 0}, []int{10, 30, 40}, []int{20, 60, 0})
	for _, c := range []struct {
		way  int
		want string
	}{
		{75, "[{75 15000}] 0"}, {50, "[{50 10000} {100 20000}] 0"}, {100, "[{100 20000}] 0"}, {101, "[] 0"},
		{33, "[{33 6600} {66 13200} {99 19800}] 0"}, {49, "[{49 9800} {98 19600}] 0"}, {1000000000, "[] 0"},
		{0, "[] 9"}, {-1, "[] 9"}, {1000000001, "[] 9"}, {math.MaxInt, "[] 9"}, {math.MinInt, "[] 9"},
	} {
		l, e := track.Splits(a, c.way)
		want(t, fmt.Sprint("splits of ", c.way), told(l, e), c.want)
	}
	// 7 decimetres in 3 seconds: thirds and sevenths are rounded up.
	l, e := track.Splits(walk([]int{0}, []int{5}, []int{8, 7}), 2)
	want(t, "rounded up", told(l, e), "[{2 5858} {4 6715} {6 7572}] 0")
	// A distance that is reached at a sample is that of the first step, also if the next ones have no length.
	l, e = track.Splits(walk([]int{0}, []int{5, 10}, []int{7, 10}, []int{8, 20}), 10)
	want(t, "at a sample", told(l, e), "[{10 5000} {20 8000}] 0")
	l, e = track.Splits(walk(), 1)
	want(t, "without samples", told(l, e), "[] 0")
	randoms(30, 60, func(r *rand.Rand, a api.Activity) {
		way := 1 + r.Intn(100)
		l, e := track.Splits(a, way)
		want(t, fmt.Sprint("splits of ", way, " of ", a), told(l, e), told(slowSplits(a, way), api.OK))
	})
}

func TestC11SplitsLimits(t *testing.T) {
	l, e := track.Splits(walk([]int{0}, []int{1, 10000}), 1)
	want(t, "10000 splits", told(len(l), l[9999], e), "10000 {10000 1000} 0")
	l, e = track.Splits(walk([]int{0}, []int{1, 10001}), 1)
	want(t, "10001 splits", told(l, e), "[] 3")
	l, e = track.Splits(walk([]int{0}, []int{1, 10001}), 0)
	want(t, "range ahead of size", told(l, e), "[] 9")
	l, e = track.Splits(walk([]int{0, -100000000, -100000000}, []int{1000000, 100000000, 100000000}), 282842711)
	want(t, "the longest step", told(l, e), "[{282842711 999999997}] 0")
}
