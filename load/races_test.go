package load_test

import (
	"fmt"
	"math/big"
	"math/rand"
	"slices"
	"testing"

	"harrier/api"
	"harrier/load"
)

const farWay = 10000000

// races makes races of ways and seconds, one behind the other.
func races(l ...int) []api.Race {
	var list []api.Race
	for i := 1; i < len(l); i += 2 {
		list = append(list, api.Race{Way: l[i-1], Seconds: l[i]})
	}
	return list
}

// manyRaces makes so many races that are right.
func manyRaces(many int) []api.Race {
	var list []api.Race
	for i := range many {
		list = append(list, api.Race{Way: 1000 + i, Seconds: 1 + i})
	}
	return list
}

func someRaces(r *rand.Rand) []api.Race {
	many := 1 + r.Intn([]int{1, 4, load.MaxRaces}[r.Intn(3)])
	some := func(low, high int) []int {
		l := r.Perm(min(high-low, 300))[:many]
		for i := range l {
			l[i] = low + l[i]*((high-low)/min(high-low, 300)) + r.Intn((high-low)/min(high-low, 300))
		}
		slices.Sort(l)
		return l
	}
	ways := some(1000, []int{1300, 50000, farWay}[r.Intn(3)])
	seconds := some(1, []int{301, 20000, 1000000}[r.Intn(3)])
	var list []api.Race
	for i := range many {
		list = append(list, api.Race{Way: ways[i], Seconds: seconds[i]})
	}
	return list
}

func TestF5CheckRaces(t *testing.T) {
	const most = load.MaxRaces
	for _, c := range []struct {
		l    []api.Race
		want api.Errno
	}{
		{nil, api.ErrEmpty}, {races(1000, 1), api.OK}, {races(1000, 1, 1001, 2), api.OK}, {races(1000, 1, 1000, 2), api.ErrOrder}, {races(1000, 1, 1001, 1), api.ErrOrder}, {races(2000, 5, 1999, 6), api.ErrOrder}, {races(2000, 5, 2001, 4), api.ErrOrder},
		{manyRaces(most), api.OK}, {manyRaces(most + 1), api.ErrSize}, {make([]api.Race, most+1), api.ErrSize},
		{races(2000, 5, 999, 5), api.ErrRange}, {races(2000, 5, farWay+1, 6), api.ErrRange}, {races(2000, 5, 3000, 1000001), api.ErrRange}, {races(2000, 5, farWay, 1000000), api.OK}, {races(2000, 5, 2000, 5, 0, 0), api.ErrOrder}, {races(2000, 5, 0, 0, 2000, 5), api.ErrRange},
	} {
		want(t, fmt.Sprint("CheckRaces ", c.l), told(load.CheckRaces(c.l)), told(c.want))
		_, e := load.Predict(c.l, 5000, 60)
		want(t, fmt.Sprint("Predict ", c.l), told(e), told(c.want))
		_, e = load.Reach(c.l, 5000, 60)
		want(t, fmt.Sprint("Reach ", c.l), told(e), told(c.want))
		if c.want != api.OK {
			_, e1 := load.Predict(c.l, 0, -1)
			_, e2 := load.Reach(c.l, 0, -1)
			want(t, fmt.Sprint("other errors, and ", c.l), told(e1, e2), told(c.want, c.want))
		}
	}
	runRanges(t, []rangeCase{
		{"Way", 1000, farWay, func(n int) api.Errno { return load.CheckRaces(races(n, 5)) }},
		{"Seconds", 1, 1000000, func(n int) api.Errno { return load.CheckRaces(races(5000, n)) }},
	})
}

func TestF5Predict(t *testing.T) {
	two := races(10000, 1800, 20000, 3900)
	for _, c := range []struct {
		l           []api.Race
		way, slower int
		want        int
	}{
		{two, 10000, 60, 1800}, {two, 20000, 60, 3900}, {two, 15000, 60, 2850}, {two, 15001, 60, 2850}, {two, 15005, 60, 2851}, {two, 10001, 0, 1800}, {two, 19999, 0, 3899},
		{two, 5000, 60, 900}, {two, 9999, 60, 1799}, {two, 6, 60, 1}, {two, 5, 60, 1}, {two, 1, 60, 1}, {two, 12, 60, 2},
		{two, 40000, 60, 8268}, {two, 40000, 0, 7800}, {two, 30000, 60, 6084}, {two, 20001, 60, 3900}, {two, 39999, 60, 8267}, {two, 80000, 60, 17528}, {two, 60000, 60, 12898},
		{races(1000, 7), 2000, 100, 15}, {races(1000, 7), 4000, 100, 33}, {races(1000, 7), 8000, 100, 72}, {races(1000, 7), 7999, 100, 71}, {races(1000, 7), 500, 100, 3}, {races(1000, 7), 1999, 100, 14},
		{races(farWay, 1000000), farWay, 200, 1000000}, {races(farWay, 1), 1, 0, 1}, {races(farWay, 1000000), 1, 0, 1}, {races(farWay, 1000000), 19, 0, 1}, {races(farWay, 1000000), 20, 0, 2},
		{races(1000, 1000000), 8192000, 200, 87648833697}, {races(5000000, 3), farWay, 200, 7},
	} {
		n, e := load.Predict(c.l, c.way, c.slower)
		want(t, fmt.Sprint("Predict ", c.l, c.way, c.slower), told(n, e), told(c.want, 0))
	}
	runRanges(t, []rangeCase{
		{"way", 1, farWay, func(n int) api.Errno { _, e := load.Predict(two, n, 60); return e }},
		{"slower", 0, 200, func(n int) api.Errno { _, e := load.Predict(two, 5, n); return e }},
		{"slower behind the last one", 0, 200, func(n int) api.Errno { _, e := load.Predict(two, 90000, n); return e }},
	})
}

// exactPredict does what the chapter says, in numbers without a limit.
func exactPredict(l []api.Race, way, slower int) *big.Int {
	first, last := l[0], l[len(l)-1]
	if way < first.Way {
		n := floored(times(number(way), number(first.Seconds)), number(first.Way))
		if n.Sign() == 0 {
			return number(1)
		}
		return n
	}
	for i, x := range l {
		if x.Way == way {
			return number(x.Seconds)
		}
		if i > 0 && l[i-1].Way < way && way < x.Way {
			a := l[i-1]
			return plus(number(a.Seconds), floored(times(number(way-a.Way), number(x.Seconds-a.Seconds)), number(x.Way-a.Way)))
		}
	}
	doubled := func(n *big.Int) *big.Int {
		n = times(n, number(2))
		return plus(n, floored(times(n, number(slower)), number(1000)))
	}
	far, seconds := last.Way, number(last.Seconds)
	for way >= 2*far {
		far, seconds = 2*far, doubled(seconds)
	}
	return plus(seconds, floored(times(number(way-far), minus(doubled(seconds), seconds)), number(far)))
}

// someWay makes a way, many of them close to those of races, or to doubled ones.
func someWay(r *rand.Rand, l []api.Race) int {
	way := l[r.Intn(len(l))].Way
	switch r.Intn(4) {
	case 0:
		way = 1 + r.Intn(farWay)
	case 1:
		way = l[len(l)-1].Way << r.Intn(14)
	case 2:
		way = 1 + r.Intn(way)
	}
	return min(max(way+r.Intn(5)-2, 1), farWay)
}

func TestF5ExactPredict(t *testing.T) {
	r := rand.New(rand.NewSource(9))
	for range 3000 {
		l, slower := someRaces(r), r.Intn(201)
		for range 10 {
			way := someWay(r, l)
			n, e := load.Predict(l, way, slower)
			want(t, fmt.Sprint("Predict ", l, way, slower), told(n, e), told(exactPredict(l, way, slower), 0))
			// A longer way never takes fewer seconds.
			if next, _ := load.Predict(l, min(way+1, farWay), slower); next < n {
				t.Error("Predict ", l, way+1, slower, " is less: ", next)
			}
		}
	}
}

func TestF5Reach(t *testing.T) {
	two := races(10000, 1800, 20000, 3900)
	for _, c := range []struct {
		l               []api.Race
		seconds, slower int
		want            string
	}{
		{two, 1800, 60, "10004 0"}, {two, 1799, 60, "9999 0"}, {two, 900, 60, "5005 0"}, {two, 1, 60, "11 0"}, {two, 3900, 60, "20004 0"}, {two, 3899, 60, "19999 0"}, {two, 8268, 60, "40004 0"},
		{two, 1000000000, 200, "10000000 0"}, {races(1000, 1000000), 999, 60, "0 4"}, {races(1000, 1000000), 1000, 60, "1 0"}, {races(1000, 1000000), 1, 60, "0 4"}, {races(1000, 2000), 1, 0, "0 4"}, {races(1000, 1999), 1, 0, "1 0"},
		{races(farWay, 1000), 1000, 0, "10000000 0"}, {races(farWay, 1000), 999, 0, "9999999 0"}, {races(farWay, 1), 1, 0, "10000000 0"},
		{races(1000, 1000000), 1000000000, 200, "235915 0"},
	} {
		n, e := load.Reach(c.l, c.seconds, c.slower)
		want(t, fmt.Sprint("Reach ", c.l, c.seconds, c.slower), told(n, e), c.want)
	}
	runRanges(t, []rangeCase{
		{"seconds", 1, 1000000000, func(n int) api.Errno { _, e := load.Reach(two, n, 60); return e }},
		{"slower", 0, 200, func(n int) api.Errno { _, e := load.Reach(two, 5, n); return e }},
	})
	_, e := load.Reach(races(1000, 1000000), 0, 60)
	want(t, "no seconds", told(e), "9")
}

// TestF5Reached asks whether a way is done in the seconds, and no longer one is.
func TestF5Reached(t *testing.T) {
	r := rand.New(rand.NewSource(10))
	for range 3000 {
		l, slower := someRaces(r), r.Intn(201)
		near, _ := load.Predict(l, someWay(r, l), slower)
		seconds := min(max(near+r.Intn(5)-2, 1), 1000000000)
		n, e := load.Reach(l, seconds, slower)
		if e == api.ErrNone {
			if one := exactPredict(l, 1, slower); n != 0 || one.Cmp(number(seconds)) <= 0 {
				t.Error("Reach ", l, seconds, slower, ": none, but ", one)
			}
			continue
		}
		if e != api.OK || n < 1 || n > farWay || exactPredict(l, n, slower).Cmp(number(seconds)) > 0 {
			t.Error("Reach ", l, seconds, slower, " is not reached: ", n, e)
		}
		if n < farWay && exactPredict(l, n+1, slower).Cmp(number(seconds)) <= 0 {
			t.Error("Reach ", l, seconds, slower, ": more is reached than ", n)
		}
	}
}
