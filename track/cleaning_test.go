package track_test

import (
	"fmt"
	"math"
	"math/big"
	"math/rand"
	"slices"
	"testing"

	"harrier/api"
	"harrier/record"
	"harrier/track"
)

func agree(p, q api.Sample, fast int) bool {
	reach := big.NewInt(int64(fast) * int64(q.At-p.At))
	return squares(p, q).Cmp(reach.Mul(reach, reach)) <= 0
}

// slowKeep looks at all lists of samples.
func slowKeep(a api.Activity, fast int) []int {
	var best []int
	lists(len(a.Samples), func(l []int) {
		for i := 1; i < len(l); i++ {
			if !agree(a.Samples[l[i-1]], a.Samples[l[i]], fast) {
				return
			}
		}
		if len(l) > len(best) {
			best = l
		}
	})
	return best
}

func TestC2Keep(t *testing.T) {
	for _, c := range []struct {
		a    api.Activity
		fast int
		want string
	}{
		{walk([]int{0}, []int{1, 500}, []int{2, 20}, []int{3, 30}), 10, "[0 2 3] 0"},
		{walk([]int{0}, []int{1, 500}, []int{2, 20}, []int{3, 30}), 9, "[0] 0"},
		{walk(), 1, "[] 0"},
		{walk([]int{0, 7, 7}), 1, "[0] 0"},
		{walk([]int{0}, []int{1, 3, 4}), 5, "[0 1] 0"},
		{walk([]int{0}, []int{1, 3, 4}), 4, "[0] 0"},
		// The first sample is the wrong one.
		{walk([]int{0, 900}, []int{1, 0}, []int{2, 1}), 10, "[1 2] 0"},
		// Of equally long lists the one that is less.
		{walk([]int{0}, []int{1, 900}, []int{2, -900}), 10, "[0] 0"},
		{walk([]int{0}, []int{1, 90}, []int{2, 91}, []int{3, 3}), 10, "[0 3] 0"},
		{walk([]int{0}, []int{1, 1, 8}, []int{2, 1, -8}, []int{3, 2}), 9, "[0 1 3] 0"},
	} {
		l, e := track.Keep(c.a, c.fast)
		want(t, fmt.Sprint("Keep of ", c.a.Samples, " with ", c.fast), told(l, e), c.want)
	}
	randoms(10, 40, func(r *rand.Rand, a api.Activity) {
		fast := 1 + r.Intn(20)
		l, e := track.Keep(a, fast)
		want(t, fmt.Sprint("Keep of ", a.Samples, " with ", fast), told(l, e), told(slowKeep(a, fast), api.OK))
	})
}

func TestC2KeepLimits(t *testing.T) {
	runRanges(t, []rangeCase{{"Keep", 1, 100000, func(n int) api.Errno { _, e := track.Keep(full(), n); return e }}})
	l, e := track.Keep(long(2000), 1)
	want(t, "2000 samples", told(len(l), l[1999], e), "2000 1999 0")
	l, e = track.Keep(long(2001), 1)
	want(t, "2001 samples", told(l, e), "[] 3")
	l, e = track.Keep(long(2001), 0)
	want(t, "range ahead of size", told(l, e), "[] 9")
	corners := [][]int{{0, -100000000, -100000000}, {2829, 100000000, 100000000}, {1000000, -100000000, -100000000}}
	l, e = track.Keep(walk(corners...), 100000)
	want(t, "as fast as can be", told(l, e), "[0 1 2] 0")
	l, e = track.Keep(walk(corners...), 99979)
	want(t, "nearly as fast", told(l, e), "[0 2] 0")
	l, e = track.Keep(walk(corners...), 283)
	want(t, "slow", told(l, e), "[0 2] 0")
}

// slowPart moves laps along second by second: a lap is what its seconds are.
func slowPart(a api.Activity, from, span int) []string {
	var list []string
	for _, x := range a.Laps {
		var seconds []int
		for s := x.From; s < x.To; s++ {
			if from <= s && s < from+span {
				seconds = append(seconds, s-from)
			}
		}
		if len(seconds) > 0 {
			list = append(list, fmt.Sprint(seconds[0], seconds[len(seconds)-1]+1, x.Name))
		}
	}
	return list
}

func lapsOf(a api.Activity) []string {
	var list []string
	for _, x := range a.Laps {
		list = append(list, fmt.Sprint(x.From, x.To, x.Name))
	}
	return list
}

func TestC3Only(t *testing.T) {
	a := full()
	a.Laps = []api.Lap{{From: 0, To: 2, Name: "x"}, {From: 2, To: 4, Name: "y"}, {From: 4, To: 6}, {From: 6, To: 8, Name: "z"}, {From: 8, To: 9}}
	for _, c := range []struct {
		l    []int
		want string
	}{
		{[]int{0, 1, 2, 3}, told(a, api.OK)},
		{[]int{0, 2}, "{walk 4 1000 [{0 0 0 0 100 -1 -1} {6 5 5 5 110 -1 -1}] [{0 2 x} {2 4 y} {4 6 }] [a b]} 0"},
		{[]int{1, 2}, "{walk 4 1003 [{0 4 4 9 -1 200 -1} {3 5 5 5 110 -1 -1}] [{0 1 y} {1 3 }] [a b]} 0"},
		{[]int{1, 3}, "{walk 4 1003 [{0 4 4 9 -1 200 -1} {6 5 5 6 -1 210 -1}] [{0 1 y} {1 3 } {3 5 z} {5 6 }] [a b]} 0"},
		{[]int{3}, "{walk 4 1009 [{0 5 5 6 -1 210 -1}] [] [a b]} 0"},
		{nil, "{walk 4 1000 [] [] [a b]} 0"},
		{[]int{}, "{walk 4 1000 [] [] [a b]} 0"},
		{[]int{0, 0}, "{ 0 0 [] [] []} 10"},
		{[]int{1, 0}, "{ 0 0 [] [] []} 10"},
		{[]int{4}, "{ 0 0 [] [] []} 4"},
		{[]int{-1, 0}, "{ 0 0 [] [] []} 4"},
		{[]int{math.MinInt, math.MaxInt}, "{ 0 0 [] [] []} 4"},
		{[]int{-1, 4, 3}, "{ 0 0 [] [] []} 10"},
		{[]int{7, 7}, "{ 0 0 [] [] []} 10"},
		{[]int{math.MaxInt, math.MinInt}, "{ 0 0 [] [] []} 10"},
	} {
		b, e := track.Only(a, c.l)
		want(t, fmt.Sprint("Only ", c.l), told(b, e), c.want)
	}
	_, e := track.Only(walk(), []int{0})
	want(t, "without samples", told(e), told(api.ErrNone))
	randoms(12, 60, func(r *rand.Rand, a api.Activity) {
		b := a
		var l []int
		b.Samples = nil
		for i, x := range a.Samples {
			if r.Intn(3) > 0 {
				l = append(l, i)
				x.At -= a.Samples[l[0]].At
				b.Samples = append(b.Samples, x)
			}
		}
		first := 0
		if len(l) > 0 {
			first = a.Samples[l[0]].At
		}
		b.Start += first
		c, e := track.Only(a, l)
		want(t, fmt.Sprint("laps of Only ", l, " of ", a), told(lapsOf(c)), told(slowPart(a, first, record.Span(b))))
		b.Laps = c.Laps
		want(t, fmt.Sprint("Only ", l, " of ", a), told(c, e), told(b, api.OK))
		want(t, "Check", told(record.Check(c)), "0")
	})
}

func TestC3OnlyAtTheEnd(t *testing.T) {
	a := walk([]int{0}, []int{5})
	a.Start = api.MaxMoment - 5
	b, e := track.Only(a, []int{1})
	want(t, "the last moment", told(b.Start, e), told(api.MaxMoment, api.OK))
	list := []int{0, 1, 7, 7}
	b, e = track.Only(a, list[:2])
	want(t, "a list with more behind it", told(len(b.Samples), list, e), "2 [0 1 7 7] 0")
}

// slowLevel holds each sample against all others in reach.
func slowLevel(a api.Activity, width int) []int {
	var list []int
	for i := range a.Samples {
		var l []int
		for j, x := range a.Samples {
			if i-width <= j && j <= i+width {
				l = append(l, x.Z)
			}
		}
		for len(l) > 2 {
			least, most := slices.Index(l, slices.Min(l)), -1
			l = slices.Delete(l, least, least+1)
			most = slices.Index(l, slices.Max(l))
			l = slices.Delete(l, most, most+1)
		}
		list = append(list, slices.Min(l))
	}
	return list
}

func heights(a api.Activity) []int {
	var list []int
	for _, x := range a.Samples {
		list = append(list, x.Z)
	}
	return list
}

func TestC4Level(t *testing.T) {
	a := hills(1, 9, 2, 3, -8)
	for _, c := range []struct {
		width int
		want  string
	}{{0, "[1 9 2 3 -8] 0"}, {1, "[1 2 3 2 -8] 0"}, {2, "[2 2 2 2 2] 0"}, {3, "[2 2 2 2 2] 0"}, {50, "[2 2 2 2 2] 0"}} {
		b, e := track.Level(a, c.width)
		want(t, fmt.Sprint("Level ", c.width), told(heights(b), e), c.want)
	}
	b, e := track.Level(walk(), 3)
	want(t, "without samples", told(b, e), "{walk 4 1000 [] [] []} 0")
	runRanges(t, []rangeCase{{"Level", 0, 50, func(n int) api.Errno { _, e := track.Level(full(), n); return e }}})
	wide := long(200)
	for i := range wide.Samples {
		wide.Samples[i].Z = i * i * 7919 % 100003
	}
	b, e = track.Level(wide, 50)
	want(t, "the greatest width", told(heights(b), e), told(slowLevel(wide, 50), api.OK))
	randoms(20, 30, func(r *rand.Rand, a api.Activity) {
		width := r.Intn(7)
		b, e := track.Level(a, width)
		want(t, fmt.Sprint("Level ", width, " of ", heights(a)), told(heights(b), e), told(slowLevel(a, width), api.OK))
		for i := range b.Samples {
			b.Samples[i].Z = a.Samples[i].Z
		}
		want(t, "all else", told(b), told(a))
	})
}

// slowFill looks from each sample back and ahead.
func slowFill(l []api.Sample, i, gap int, field func(x api.Sample) int) int {
	p, q := i, i
	for p >= 0 && field(l[p]) < 0 {
		p--
	}
	for q < len(l) && field(l[q]) < 0 {
		q++
	}
	if p < 0 || q == len(l) || p == q || l[q].At-l[p].At > gap {
		return field(l[i])
	}
	from, to, whole := field(l[p]), field(l[q]), l[q].At-l[p].At
	return quotient(from*whole+(to-from)*(l[i].At-l[p].At), whole)
}

func TestC4Fill(t *testing.T) {
	a := walk([]int{0}, []int{2}, []int{3}, []int{7}, []int{10}, []int{12})
	a.Samples[0].Pulse, a.Samples[4].Pulse = 100, 110
	a.Samples[1].Power, a.Samples[3].Power, a.Samples[4].Power = 9, 0, 5
	a.Samples[0].Steps, a.Samples[2].Steps, a.Samples[5].Steps = 3, 0, 300
	fields := func(a api.Activity) string {
		s := ""
		for _, x := range a.Samples {
			s += fmt.Sprintln(x.Pulse, x.Power, x.Steps)
		}
		return s
	}
	for _, c := range []struct {
		gap  int
		want string
	}{
		{0, "100 -1 3\n-1 9 -1\n-1 -1 0\n-1 0 -1\n110 5 -1\n-1 -1 300\n"},
		{3, "100 -1 3\n-1 9 1\n-1 -1 0\n-1 0 -1\n110 5 -1\n-1 -1 300\n"},
		{5, "100 -1 3\n-1 9 1\n-1 7 0\n-1 0 -1\n110 5 -1\n-1 -1 300\n"},
		{9, "100 -1 3\n-1 9 1\n-1 7 0\n-1 0 133\n110 5 233\n-1 -1 300\n"},
		{10, "100 -1 3\n102 9 1\n103 7 0\n107 0 133\n110 5 233\n-1 -1 300\n"},
	} {
		b, e := track.Fill(a, c.gap)
		want(t, fmt.Sprint("Fill ", c.gap), told(fields(b), e), told(c.want, api.OK))
	}
	// Halves go up, on the way down too.
	b, e := track.Fill(api.Activity{Name: "a", Sport: 1, Samples: []api.Sample{{At: 0, Pulse: 1, Power: 2}, {At: 1, Pulse: -1, Power: -1}, {At: 2, Pulse: 2, Power: 1}}}, 2)
	want(t, "halves", told(fields(b), e), "1 2 0\n2 2 0\n2 1 0\n 0")
	runRanges(t, []rangeCase{{"Fill", 0, 1000000, func(n int) api.Errno { _, e := track.Fill(full(), n); return e }}})
	far := walk([]int{0}, []int{999999}, []int{1000000})
	far.Samples[0].Power, far.Samples[2].Power = 3000, 0
	b, e = track.Fill(far, 1000000)
	want(t, "the greatest gap", told(b.Samples[1].Power, e), "0 0")
	b, e = track.Fill(far, 999999)
	want(t, "a second less", told(b.Samples[1].Power, e), "-1 0")
	randoms(20, 30, func(r *rand.Rand, a api.Activity) {
		gap := r.Intn(20)
		b, e := track.Fill(a, gap)
		c := roomy(a)
		for i := range c.Samples {
			c.Samples[i].Pulse = slowFill(a.Samples, i, gap, func(x api.Sample) int { return x.Pulse })
			c.Samples[i].Power = slowFill(a.Samples, i, gap, func(x api.Sample) int { return x.Power })
			c.Samples[i].Steps = slowFill(a.Samples, i, gap, func(x api.Sample) int { return x.Steps })
		}
		want(t, fmt.Sprint("Fill ", gap, " of ", a), told(b, e), told(c, api.OK))
	})
}
