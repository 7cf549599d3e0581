package track_test

import (
	"fmt"
	"math/rand"
	"testing"

	"harrier/api"
	"harrier/record"
	"harrier/track"
)

// seconds tells for each second of the span what holds for the step that it belongs to.
func seconds(a api.Activity, holds func(p, q api.Sample) bool) []bool {
	l := make([]bool, record.Span(a))
	for i := 1; i < len(a.Samples); i++ {
		p, q := a.Samples[i-1], a.Samples[i]
		for s := p.At; s < q.At; s++ {
			l[s] = holds(p, q)
		}
	}
	return l
}

// runs returns the rows of seconds that are true, of at least so many.
func runs(l []bool, least int) []api.Span {
	var list []api.Span
	for from := 0; from < len(l); from++ {
		to := from
		for to < len(l) && l[to] {
			to++
		}
		if to > from && to-from >= least {
			list = append(list, api.Span{From: from, To: to - 1})
		}
		from = max(from, to-1)
	}
	return list
}

func idle(gap int) func(p, q api.Sample) bool {
	return func(p, q api.Sample) bool { return q.At-p.At > gap }
}

func still(slow int) func(p, q api.Sample) bool {
	return func(p, q api.Sample) bool { return length(p, q) <= slow*(q.At-p.At) }
}

func TestC5Idle(t *testing.T) {
	a := walk([]int{0}, []int{3}, []int{6}, []int{8}, []int{9}, []int{12}, []int{13})
	for gap, s := range map[int]string{1: "[{0 7} {9 11}] 0", 2: "[{0 5} {9 11}] 0", 3: "[] 0", 1000000: "[] 0", 0: "[] 9", -1: "[] 9", 1000001: "[] 9"} {
		l, e := track.Idle(a, gap)
		want(t, fmt.Sprint("Idle ", gap), told(l, e), s)
	}
	for _, a := range []api.Activity{walk(), walk([]int{0})} {
		l, e := track.Idle(a, 1)
		want(t, "no steps", told(l, e), "[] 0")
	}
	l, e := track.Idle(walk([]int{0}, []int{1000000}), 999999)
	want(t, "the longest step", told(l, e), "[{0 999999}] 0")
	runRanges(t, []rangeCase{{"Idle", 1, 1000000, func(n int) api.Errno { _, e := track.Idle(full(), n); return e }}})
	randoms(20, 30, func(r *rand.Rand, a api.Activity) {
		gap := 1 + r.Intn(6)
		l, e := track.Idle(a, gap)
		want(t, fmt.Sprint("Idle ", gap, " of ", a), told(l, e), told(runs(seconds(a, idle(gap)), 1), api.OK))
	})
}

func TestC5Still(t *testing.T) {
	// Their lengths are 2, 5, 5, 0 and 9.
	a := walk([]int{0}, []int{2, 2}, []int{4, 5, 4}, []int{9, 9, 7}, []int{10, 9, 7}, []int{12, 18, 7})
	for _, c := range []struct {
		slow, least int
		want        string
	}{
		{0, 1, "[{9 9}] 0"}, {0, 2, "[] 0"}, {1, 1, "[{0 1} {4 9}] 0"}, {1, 2, "[{0 1} {4 9}] 0"}, {1, 3, "[{4 9}] 0"}, {1, 6, "[{4 9}] 0"}, {1, 7, "[] 0"},
		{2, 1, "[{0 1} {4 9}] 0"}, {3, 1, "[{0 9}] 0"}, {4, 1, "[{0 9}] 0"}, {5, 1, "[{0 11}] 0"}, {5, 12, "[{0 11}] 0"}, {5, 13, "[] 0"}, {100000, 1000000, "[] 0"},
	} {
		l, e := track.Still(a, c.slow, c.least)
		want(t, fmt.Sprint("Still ", c.slow, c.least), told(l, e), c.want)
	}
	l, e := track.Still(walk([]int{0}, []int{1000000, 100000000, 100000000}), 283, 1000000)
	want(t, "the longest step", told(l, e), "[{0 999999}] 0")
	runRanges(t, []rangeCase{
		{"Still, slow", 0, 100000, func(n int) api.Errno { _, e := track.Still(full(), n, 1); return e }},
		{"Still, least", 1, 1000000, func(n int) api.Errno { _, e := track.Still(full(), 0, n); return e }},
	})
	randoms(20, 30, func(r *rand.Rand, a api.Activity) {
		slow, least := r.Intn(12), 1+r.Intn(9)
		l, e := track.Still(a, slow, least)
		want(t, fmt.Sprint("Still ", slow, least, " of ", a), told(l, e), told(runs(seconds(a, still(slow)), least), api.OK))
	})
}

func TestC5Moving(t *testing.T) {
	a := walk([]int{0}, []int{100, 1000}, []int{110, 1200}, []int{120, 1200}, []int{181, 1200}, []int{191, 1400})
	for _, c := range []struct {
		gap, slow, least int
		want             string
	}{
		{60, 1, 5, "20 0"}, {60, 0, 1, "20 0"}, {60, 0, 72, "30 0"}, {61, 0, 71, "20 0"}, {61, 0, 72, "91 0"}, {100, 0, 1000000, "191 0"},
		{9, 0, 1, "0 0"}, {1000000, 100000, 1, "0 0"}, {1000000, 19, 1, "20 0"}, {1000000, 20, 1, "0 0"},
		{0, 0, 1, "0 9"}, {1000001, 0, 1, "0 9"}, {1, -1, 1, "0 9"}, {1, 100001, 1, "0 9"}, {1, 0, 0, "0 9"}, {1, 0, 1000001, "0 9"},
	} {
		n, e := track.Moving(a, c.gap, c.slow, c.least)
		want(t, fmt.Sprint("Moving ", c.gap, c.slow, c.least), told(n, e), c.want)
	}
	n, e := track.Moving(walk(), 1, 0, 1)
	want(t, "without samples", told(n, e), "0 0")
	randoms(20, 30, func(r *rand.Rand, a api.Activity) {
		gap, slow, least := 1+r.Intn(6), r.Intn(12), 1+r.Intn(9)
		rest := seconds(a, idle(gap))
		for _, x := range runs(seconds(a, still(slow)), least) {
			for s := x.From; s <= x.To; s++ {
				rest[s] = true
			}
		}
		many := 0
		for _, is := range rest {
			if !is {
				many++
			}
		}
		n, e := track.Moving(a, gap, slow, least)
		want(t, fmt.Sprint("Moving ", gap, slow, least, " of ", a), told(n, e), told(many, api.OK))
	})
}
