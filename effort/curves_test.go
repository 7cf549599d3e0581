package effort_test

import (
	"fmt"
	"math/rand"
	"testing"

	"harrier/api"
	"harrier/effort"
)

// randomCurve has some sizes up to most, with sums so small that many are equal; At tells curves apart.
func randomCurve(r *rand.Rand, most, at int) []api.Best {
	var c []api.Best
	for size := 1 + r.Intn(most); size <= most; size += 1 + r.Intn(3) {
		x := api.Best{Size: size}
		if r.Intn(3) > 0 {
			x = api.Best{Size: size, Sum: r.Intn(3), At: at, Found: true}
		}
		c = append(c, x)
	}
	return c
}

// of looks for a size in a curve.
func of(c []api.Best, size int) (api.Best, bool) {
	for _, x := range c {
		if x.Size == size {
			return x, true
		}
	}
	return api.Best{}, false
}

// slowMerge asks both curves for each size.
func slowMerge(a, b []api.Best, most int) []api.Best {
	l := []api.Best{}
	for size := range most + 1 {
		x, inA := of(a, size)
		y, inB := of(b, size)
		switch {
		case !inA && !inB:
		case !inB:
			l = append(l, x)
		case !inA || !x.Found || y.Found && y.Sum > x.Sum:
			l = append(l, y)
		default:
			l = append(l, x)
		}
	}
	return l
}

func slowBeats(a, b []api.Best, most int) []int {
	l := []int{}
	for size := range most + 1 {
		x, _ := of(a, size)
		y, _ := of(b, size)
		if x.Found && (!y.Found || x.Sum > y.Sum) {
			l = append(l, size)
		}
	}
	return l
}

var (
	curve1 = []api.Best{{Size: 1, Sum: 9, At: 4, Found: true}, {Size: 3, Sum: 8, Found: true}}
	curve2 = []api.Best{{Size: 1, Sum: 9, Found: true}, {Size: 3}}
)

func TestD5Merge(t *testing.T) {
	other := []api.Best{{Size: 2}, {Size: 3, Sum: 9, At: 5, Found: true}, {Size: 4, Sum: 0, At: 6, Found: true}}
	for _, c := range []struct {
		a, b []api.Best
		want string
	}{
		{curve1, curve2, "[{1 9 4 true} {3 8 0 true}] 0"}, {curve2, curve1, "[{1 9 0 true} {3 8 0 true}] 0"}, {curve2, curve2, "[{1 9 0 true} {3 0 0 false}] 0"},
		{curve1, other, "[{1 9 4 true} {2 0 0 false} {3 9 5 true} {4 0 6 true}] 0"}, {other, curve1, "[{1 9 4 true} {2 0 0 false} {3 9 5 true} {4 0 6 true}] 0"},
		{[]api.Best{{Size: 4}}, other[2:], "[{4 0 6 true}] 0"}, {other[2:], []api.Best{{Size: 4}}, "[{4 0 6 true}] 0"},
		{nil, curve1, "[] 13"}, {curve1, nil, "[] 13"},
		{[]api.Best{{Size: 1, Sum: 1}}, []api.Best{{}}, "[] 2"}, {[]api.Best{{}}, []api.Best{{Size: 1, Sum: 1}}, "[] 9"}, {curve1, []api.Best{{Size: 1, Sum: 1}}, "[] 2"},
	} {
		x, e := effort.Merge(c.a, c.b)
		want(t, fmt.Sprint("Merge ", c.a, c.b), told(x, e), c.want)
	}
	for _, c := range []struct {
		a, b []int
		want string
	}{
		{rising(1, 50), rising(51, 50), "100 0"}, {rising(1, 50), rising(51, 51), "0 3"}, {rising(1, 100), rising(1, 100), "100 0"}, {rising(1, 100), rising(2, 100), "0 3"}, {[]int{999999}, rising(1, 100), "0 3"},
	} {
		x, e := effort.Merge(curveOf(c.a), curveOf(c.b))
		want(t, fmt.Sprint("Merge with the sizes ", c.a, c.b), told(len(x), e), c.want)
	}
	r := rand.New(rand.NewSource(4))
	for range 5000 {
		a, b := randomCurve(r, 12, 1), randomCurve(r, 12, 2)
		if len(a) == 0 || len(b) == 0 {
			continue
		}
		x, e := effort.Merge(a, b)
		want(t, fmt.Sprint("Merge ", a, b), told(x, e), told(slowMerge(a, b, 12), api.OK))
	}
}

func TestD5Beats(t *testing.T) {
	for _, c := range []struct {
		a, b []api.Best
		want string
	}{
		{curve1, curve2, "[3] 0"}, {curve2, curve1, "[] 0"}, {curve1, curve1, "[] 0"}, {curve2, curve2, "[] 0"},
		{curve1, []api.Best{{Size: 2, Sum: 99, Found: true}}, "[1 3] 0"}, {curve2, []api.Best{{Size: 2, Sum: 99, Found: true}}, "[1] 0"},
		{curve1, []api.Best{{Size: 1, Sum: 8, Found: true}, {Size: 3, Sum: 9, Found: true}}, "[1] 0"},
		{[]api.Best{{Size: 1, Found: true}}, []api.Best{{Size: 1}}, "[1] 0"}, {[]api.Best{{Size: 1}}, []api.Best{{Size: 1}}, "[] 0"}, {[]api.Best{{Size: 1}}, []api.Best{{Size: 2}}, "[] 0"},
		{nil, curve1, "[] 13"}, {curve1, nil, "[] 13"},
		{[]api.Best{{Size: 1, Sum: 1}}, []api.Best{{}}, "[] 2"}, {[]api.Best{{}}, []api.Best{{Size: 1, Sum: 1}}, "[] 9"}, {curve1, []api.Best{{Size: 1, Sum: 1}}, "[] 2"},
	} {
		x, e := effort.Beats(c.a, c.b)
		want(t, fmt.Sprint("Beats ", c.a, c.b), told(x, e), c.want)
	}
	r := rand.New(rand.NewSource(5))
	for range 5000 {
		a, b := randomCurve(r, 12, 1), randomCurve(r, 12, 2)
		if len(a) == 0 || len(b) == 0 {
			continue
		}
		x, e := effort.Beats(a, b)
		want(t, fmt.Sprint("Beats ", a, b), told(x, e), told(slowBeats(a, b, 12), api.OK))
	}
}
