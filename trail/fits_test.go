package trail_test

import (
	"fmt"
	"math"
	"math/big"
	"math/rand"
	"testing"

	"harrier/api"
	"harrier/record"
	"harrier/track"
	"harrier/trail"
)

func TestK6Fit(t *testing.T) {
	straight := walk(100, []int{0}, []int{10, 100})
	still := walk(100, []int{0}, []int{10})
	for _, c := range []struct {
		what        string
		a, b        api.Activity
		most, least int
		want        string
	}{
		{"a clock ahead", straight, walk(103, []int{0}, []int{4, 40}, []int{10, 100}), 10, 1, "{3 3 0} true 0"},
		{"a clock ahead, just as far", straight, walk(103, []int{0}, []int{4, 40}, []int{10, 100}), 3, 3, "{3 3 0} true 0"},
		{"a clock ahead, not so far", straight, walk(103, []int{0}, []int{4, 40}, []int{10, 100}), 2, 1, "{2 2 200} true 0"},
		{"a clock behind", straight, walk(97, []int{0}, []int{4, 40}, []int{10, 100}), 10, 2, "{-3 3 0} true 0"},
		{"too few", straight, walk(103, []int{0}, []int{4, 40}, []int{10, 100}), 10, 4, "{0 0 0} false 0"},
		{"just before the beginning", straight, walk(99, []int{0}), 0, 1, "{0 0 0} false 0"},
		{"at the beginning", straight, walk(100, []int{0, 3, 4}), 0, 1, "{0 1 25} true 0"},
		{"at the end", straight, walk(110, []int{0, 97, 4}), 0, 1, "{0 1 25} true 0"},
		{"behind the end", straight, walk(111, []int{0, 100}), 0, 1, "{0 0 0} false 0"},
		{"just in reach of the end", straight, walk(115, []int{0, 100}), 5, 1, "{5 1 0} true 0"},
		{"just out of reach of the end", straight, walk(116, []int{0, 100}), 5, 1, "{0 0 0} false 0"},
		{"just in reach of the beginning", straight, walk(95, []int{0}), 5, 1, "{-5 1 0} true 0"},
		{"just out of reach of the beginning", straight, walk(94, []int{0}), 5, 1, "{0 0 0} false 0"},
		{"nothing in a", walk(100), straight, 10, 1, "{0 0 0} false 0"},
		{"nothing in b", straight, walk(100), 10, 1, "{0 0 0} false 0"},
		{"nothing in both", walk(100), walk(100), 10, 1, "{0 0 0} false 0"},
		{"one sample in each", walk(100, []int{0, 7, 7}), walk(4, []int{0, 7, 8}), 100, 1, "{-96 1 1} true 0"},
		{"heights do not count", straight, walk(100, []int{0, 0, 0, 500}, []int{10, 100, 0, -500}), 0, 2, "{0 2 0} true 0"},
		// Of equal ones the one with the most samples, then the nearest to 0, then the one above 0.
		{"more samples", still, walk(104, []int{0}, []int{9}), 10, 1, "{3 2 0} true 0"},
		{"the nearest to 0", still, walk(103, []int{0}), 10, 1, "{0 1 0} true 0"},
		{"the nearest to 0, ahead", still, walk(113, []int{0}), 10, 1, "{3 1 0} true 0"},
		{"the nearest to 0, behind", still, walk(97, []int{0}), 10, 1, "{-3 1 0} true 0"},
		{"above 0", walk(100, []int{0, -1}, []int{2, 1}, []int{4, -1}), walk(102, []int{0}), 2, 1, "{1 1 0} true 0"},
		{"above 0, both not as good as 0", walk(100, []int{0, -1}, []int{2, 1}, []int{4, -1}), walk(102, []int{0, 1}), 2, 1, "{0 1 0} true 0"},
		// In relation to how many they are: 2 of 2, or 3 of 4.
		{"a greater sum for more samples", walk(100, []int{0}, []int{3}), walk(98, []int{0, 0, 0}, []int{1, 1, 1}, []int{2, 1}, []int{3}), 0, 1, "{0 2 1} true 0"},
		{"less for each, more together", walk(100, []int{0, 9}, []int{1, 1}, []int{2, 2}, []int{3, 1}, []int{4, 1}), walk(100, []int{0, 2}, []int{1, 1}), 4, 1, "{-2 2 0} true 0"},
		{"rounded places", walk(100, []int{0}, []int{3, 1}), walk(101, []int{0}, []int{1, 1}), 0, 2, "{0 2 0} true 0"},
		{"rounded places below 0", walk(100, []int{0}, []int{2, -1, -3}), walk(101, []int{0}), 0, 1, "{0 1 1} true 0"},
		// Each sample counts 10^12 at most.
		{"just as far as counts", still, walk(100, []int{0, 600000, 800000}), 0, 1, "{0 1 1000000000000} true 0"},
		{"a bit less far", still, walk(100, []int{0, 600000, 799999}), 0, 1, "{0 1 999998400001} true 0"},
		{"farther than counts", still, walk(100, []int{0, 600001, 800000}), 0, 1, "{0 1 1000000000000} true 0"},
		{"as far as can be", walk(100, []int{0, -api.MaxPlace, -api.MaxPlace}, []int{10, -api.MaxPlace, -api.MaxPlace}), walk(100, []int{0, api.MaxPlace, api.MaxPlace}, []int{10, api.MaxPlace, api.MaxPlace}), 9, 1, "{0 2 2000000000000} true 0"},
		{"far in both", still, walk(100, []int{0, 1000000, 1000000}, []int{1, 0, 1}), 0, 1, "{0 2 1000000000001} true 0"},
		{"the ends of all moments", walk(0, []int{0}), walk(api.MaxMoment, []int{0}), trail.MaxShift, 1, "{0 0 0} false 0"},
		{"the ends of all moments, the other way round", walk(api.MaxMoment, []int{0}), walk(0, []int{0}), trail.MaxShift, 1, "{0 0 0} false 0"},
		{"the greatest shift", walk(100, []int{0}), walk(3700, []int{0}), trail.MaxShift, 1, "{3600 1 0} true 0"},
		{"the least shift", walk(3700, []int{0}), walk(100, []int{0}), trail.MaxShift, 1, "{-3600 1 0} true 0"},
		{"a long time", walk(100, []int{0}, []int{1000000, 1000000}), walk(500000, []int{0, 499890}), 100, 1, "{10 1 0} true 0"},
	} {
		want(t, c.what, told(trail.Fit(c.a, c.b, c.most, c.least)), c.want)
	}
}

func TestK6Most(t *testing.T) {
	a, b := long(400), long(400)
	b.Start += 1000
	want(t, "as many samples as can be", told(trail.Fit(a, b, 3600, 400)), "{1000 400 0} true 0")
	for i := range b.Samples {
		b.Samples[i].X, b.Samples[i].Y = api.MaxPlace, api.MaxPlace
	}
	want(t, "as far as can be", told(trail.Fit(a, b, 3600, 1)), "{1000 400 400000000000000} true 0")
}

func TestK6Errors(t *testing.T) {
	wrong, other := full(), full()
	wrong.Name, other.Sport = "", 0
	for _, c := range []struct {
		what        string
		a, b        api.Activity
		most, least int
		e           api.Errno
	}{
		{"both wrong", wrong, other, -1, 0, api.ErrName},
		{"both wrong, the other way round", other, wrong, -1, 0, api.ErrKind},
		{"the second one wrong", long(401), other, -1, 0, api.ErrKind},
		{"the first one wrong", wrong, long(401), -1, 0, api.ErrName},
		{"the first one too long", long(401), full(), -1, 0, api.ErrSize},
		{"the second one too long", full(), long(401), -1, 0, api.ErrSize},
		{"both too long, all else right", long(401), long(401), 5, 1, api.ErrSize},
		{"most below 0", full(), full(), -1, 1, api.ErrRange},
		{"most too great", full(), full(), 3601, 1, api.ErrRange},
		{"most far too great", full(), full(), math.MaxInt, 1, api.ErrRange},
		{"most far too small", full(), full(), math.MinInt, 1, api.ErrRange},
		{"least 0", full(), full(), 5, 0, api.ErrRange},
		{"least below 0", full(), full(), 5, -1, api.ErrRange},
		{"least too great", full(), full(), 5, 401, api.ErrRange},
		{"no samples, and least too great", walk(1), walk(1), 5, 401, api.ErrRange},
		{"least as great as can be", full(), full(), 3600, 400, api.OK},
		{"other sports", full(), walk(1000, []int{0}), 0, 1, api.OK},
	} {
		m, ok, e := trail.Fit(c.a, c.b, c.most, c.least)
		want(t, c.what, told(e), told(c.e))
		if m.Many == 0 != !ok || e != api.OK && (ok || m != api.Match{}) {
			t.Error(c.what, m, ok)
		}
	}
	a := full()
	a.Sport = api.Swim
	want(t, "sports do not count", told(trail.Fit(a, full(), 0, 4)), "{0 4 0} true 0")
}

// slowMatch asks track.At for each sample.
func slowMatch(a, b api.Activity, shift int) api.Match {
	m := api.Match{Shift: shift}
	for _, s := range b.Samples {
		moment := b.Start + s.At - shift
		if len(a.Samples) == 0 || moment < a.Start || moment > a.Start+record.Span(a) {
			continue
		}
		p, _ := track.At(a, moment-a.Start)
		m.Many++
		m.Sum += min((s.X-p.X)*(s.X-p.X)+(s.Y-p.Y)*(s.Y-p.Y), 1_000_000_000_000)
	}
	return m
}

// slowFit goes through the shifts from 0 on, so that a later one has to be better.
func slowFit(a, b api.Activity, most, least int) (best api.Match, found bool) {
	for i := range 2*most + 1 {
		shift := (i + 1) / 2
		if i%2 == 0 {
			shift = -shift
		}
		m := slowMatch(a, b, shift)
		if m.Many < least {
			continue
		}
		if found {
			less := big.NewRat(int64(m.Sum), int64(m.Many)).Cmp(big.NewRat(int64(best.Sum), int64(best.Many)))
			if less > 0 || less == 0 && m.Many <= best.Many {
				continue
			}
		}
		best, found = m, true
	}
	return best, found
}

// randomWalk makes a recording of somebody who is near 0 all the time.
func randomWalk(r *rand.Rand, size int) api.Activity {
	a := api.Activity{Name: "a", Sport: one(r, api.Run, api.Run, api.Ride), Start: 50 + r.Intn(30)}
	at := 0
	for range r.Intn(9) {
		a.Samples = append(a.Samples, api.Sample{At: at, X: r.Intn(2*size) - size, Y: r.Intn(size), Z: r.Intn(9), Pulse: unknown(r, 9), Power: unknown(r, 9), Steps: unknown(r, 9)})
		at += 1 + r.Intn(6)
	}
	return a
}

func TestK6Random(t *testing.T) {
	r := rand.New(rand.NewSource(116))
	fits := 0
	for range 20000 {
		size := one(r, 1, 2, 3, 8, 1_000_000)
		a, b := randomWalk(r, size), randomWalk(r, size)
		most, least := r.Intn(1+r.Intn(50)), 1+r.Intn(4)
		m, ok, e := trail.Fit(a, b, most, least)
		slow, found := slowFit(a, b, most, least)
		if found {
			fits++
		}
		want(t, fmt.Sprint("Fit of ", a, " and ", b, " with ", most, " and ", least), told(m, ok, e), told(slow, found, 0))
	}
	if fits < 5000 {
		t.Error("not often: ", fits)
	}
}

// TestK6Found asks whether the seconds are found by which the clock of one of two devices was put forward.
func TestK6Found(t *testing.T) {
	r := rand.New(rand.NewSource(1160))
	for range 200 {
		a := walk(5000)
		for i := range 60 {
			a.Samples = append(a.Samples, api.Sample{At: 3 * i, X: 10*i*i + r.Intn(9), Y: 100 * i, Pulse: -1, Power: -1, Steps: -1})
		}
		b, _ := track.Cut(a, r.Intn(60), 100+r.Intn(60))
		ahead := r.Intn(401) - 200
		b.Start += ahead
		m, ok, e := trail.Fit(a, b, 200, len(b.Samples))
		want(t, "Fit", told(m, ok, e), told(api.Match{Shift: ahead, Many: len(b.Samples)}, true, 0))
	}
}

func TestK8Pair(t *testing.T) {
	at := func(start, x int) api.Activity { return walk(start, []int{0, x}) }
	ride := at(100, 0)
	ride.Sport = api.Ride
	for _, c := range []struct {
		what               string
		l                  []api.Activity
		most, least, apart int
		want               string
	}{
		{"none", nil, 5, 1, 5, "[] 0"},
		{"one", []api.Activity{at(100, 0)}, 5, 1, 5, "[] 0"},
		{"two", []api.Activity{at(100, 0), at(103, 5)}, 5, 1, 5, "[[0 1]] 0"},
		{"two, not so near", []api.Activity{at(100, 0), at(103, 6)}, 5, 1, 5, "[] 0"},
		{"two, not so near in time", []api.Activity{at(100, 0), at(106, 0)}, 5, 1, 5, "[] 0"},
		{"two, too few samples", []api.Activity{at(100, 0), at(103, 5)}, 5, 2, 5, "[] 0"},
		{"two at the same place", []api.Activity{at(100, 0), at(103, 0)}, 5, 1, 0, "[[0 1]] 0"},
		{"two, not at the same place", []api.Activity{at(100, 0), at(103, 1)}, 5, 1, 0, "[] 0"},
		{"as far as can be", []api.Activity{at(100, 0), walk(100, []int{0, 6000, 8000})}, 5, 1, 10000, "[[0 1]] 0"},
		{"farther", []api.Activity{at(100, 0), walk(100, []int{0, 6001, 8000})}, 5, 1, 10000, "[] 0"},
		{"other sports", []api.Activity{at(100, 0), ride, at(100, 9), ride}, 5, 1, 5, "[[1 3]] 0"},
		{"three", []api.Activity{at(100, 0), at(100, 0), at(100, 0)}, 5, 1, 5, "[[0 1]] 0"},
		{"four", []api.Activity{at(100, 0), at(100, 0), at(100, 0), at(100, 0)}, 5, 1, 5, "[[0 1] [2 3]] 0"},
		{"the first pair, not the best one", []api.Activity{at(100, 0), at(100, 5), at(100, 0)}, 5, 1, 5, "[[0 1]] 0"},
		{"a chain", []api.Activity{at(100, 0), at(100, 9), at(100, 5), at(100, 13)}, 5, 1, 5, "[[0 2] [1 3]] 0"},
		{"pairs in one another", []api.Activity{at(100, 0), at(100, 50), at(100, 50), at(100, 0)}, 5, 1, 5, "[[0 3] [1 2]] 0"},
		{"together more, but not each", []api.Activity{walk(100, []int{0}, []int{1}, []int{2}), walk(100, []int{0, 5}, []int{1, 5}, []int{2, 5})}, 0, 3, 5, "[[0 1]] 0"},
		{"one too far", []api.Activity{walk(100, []int{0}, []int{1}, []int{2}), walk(100, []int{0, 5}, []int{1, 5}, []int{2, 6})}, 0, 3, 5, "[] 0"},
		{"the first one has to be a", []api.Activity{walk(100, []int{0}, []int{10}), walk(102, []int{0})}, 0, 1, 5, "[[0 1]] 0"},
		{"the first one has to be a, the other way round", []api.Activity{walk(102, []int{0}), walk(100, []int{0}, []int{10})}, 0, 1, 5, "[] 0"},
		{"without samples", []api.Activity{walk(100), walk(100), walk(100)}, 5, 1, 5, "[] 0"},
	} {
		want(t, c.what, told(trail.Pair(c.l, c.most, c.least, c.apart)), c.want)
	}
	l := many(30, func(i int) api.Activity { return at(100, 20*(i%15)) })
	pairs, e := trail.Pair(l, 3600, 1, 10)
	want(t, "as many as can be", told(len(pairs), pairs[14], e), "15 [14 29] 0")
}

func TestK8Errors(t *testing.T) {
	wrong, other := full(), full()
	wrong.Name, other.Sport = "", 0
	for _, c := range []struct {
		what               string
		l                  []api.Activity
		most, least, apart int
		e                  api.Errno
	}{
		{"too many, all wrong", make([]api.Activity, 31), -1, 0, -1, api.ErrSize},
		{"as many as can be, all wrong", make([]api.Activity, 30), -1, 0, -1, api.ErrName},
		{"a wrong one, then a longer one", []api.Activity{full(), wrong, long(401)}, -1, 0, -1, api.ErrName},
		{"a longer one, then a wrong one", []api.Activity{full(), long(401), wrong}, -1, 0, -1, api.ErrSize},
		{"two wrong ones", []api.Activity{other, wrong}, -1, 0, -1, api.ErrKind},
		{"one that is longer", []api.Activity{long(401)}, 5, 1, 5, api.ErrSize},
		{"one that is longer, ahead of ranges", []api.Activity{long(401)}, -1, 1, 5, api.ErrSize},
		{"one that is as long as can be", []api.Activity{long(400), long(400)}, 5, 1, 5, api.OK},
		{"most below 0", nil, -1, 1, 5, api.ErrRange},
		{"most too great", nil, 3601, 1, 5, api.ErrRange},
		{"least 0", nil, 5, 0, 5, api.ErrRange},
		{"least too great", nil, 5, 401, 5, api.ErrRange},
		{"apart below 0", nil, 5, 1, -1, api.ErrRange},
		{"apart too great", nil, 5, 1, 10001, api.ErrRange},
		{"apart far too great", nil, 5, 1, math.MaxInt, api.ErrRange},
		{"apart far too small", nil, 5, 1, math.MinInt, api.ErrRange},
		{"the greatest ones", []api.Activity{full(), full()}, 3600, 400, 10000, api.OK},
		{"the least ones", []api.Activity{full(), full()}, 0, 1, 0, api.OK},
	} {
		l, e := trail.Pair(c.l, c.most, c.least, c.apart)
		want(t, c.what, told(e), told(c.e))
		if e != api.OK && len(l) > 0 {
			t.Error(c.what, l)
		}
	}
}

// slowPair asks Fit for all pairs.
func slowPair(l []api.Activity, most, least, apart int) (pairs [][2]int) {
	taken := map[int]bool{}
	for i := range l {
		for j := i + 1; j < len(l); j++ {
			m, ok := slowFit(l[i], l[j], most, least)
			if ok && l[i].Sport == l[j].Sport && m.Sum <= m.Many*apart*apart && !taken[i] && !taken[j] {
				pairs = append(pairs, [2]int{i, j})
				taken[i], taken[j] = true, true
			}
		}
	}
	return pairs
}

func TestK8Random(t *testing.T) {
	r := rand.New(rand.NewSource(118))
	found := 0
	for range 1500 {
		size := 1 + r.Intn(30)
		l := many(r.Intn(7), func(int) api.Activity { return randomWalk(r, size) })
		most, least, apart := r.Intn(20), 1+r.Intn(3), r.Intn(1+size)
		pairs, e := trail.Pair(l, most, least, apart)
		found += len(pairs)
		want(t, fmt.Sprint("Pair of ", l, " with ", most, least, apart), told(pairs, e), told(slowPair(l, most, least, apart), 0))
	}
	if found < 500 {
		t.Error("not often: ", found)
	}
}
