package track_test

import (
	"fmt"
	"math/rand"
	"slices"
	"testing"
	"time"

	"harrier/api"
	"harrier/track"
)

// slowClimb looks at all lines from the first sample to the last one.
func slowClimb(z []int, threshold int) api.Zigzag {
	if len(z) < 2 {
		return api.Zigzag{}
	}
	var best api.Zigzag
	most, found := 0, false
	lists(len(z)-2, func(l []int) {
		x := api.Zigzag{Turns: len(l)}
		last := z[0]
		for _, i := range l {
			x.Up, x.Down = x.Up+max(z[i+1]-last, 0), x.Down+max(last-z[i+1], 0)
			last = z[i+1]
		}
		end := z[len(z)-1]
		x.Up, x.Down = x.Up+max(end-last, 0), x.Down+max(last-end, 0)
		worth := x.Up + x.Down - threshold*x.Turns
		if !found || worth > most || worth == most && x.Turns < best.Turns {
			best, most, found = x, worth, true
		}
	})
	return best
}

func TestC6Climb(t *testing.T) {
	example := hills(0, 12, 2, 15)
	for _, c := range []struct {
		a         api.Activity
		threshold int
		want      string
	}{
		{example, 0, "{25 10 2} 0"}, {example, 5, "{25 10 2} 0"}, {example, 9, "{25 10 2} 0"}, {example, 10, "{15 0 0} 0"}, {example, 11, "{15 0 0} 0"}, {example, 200000, "{15 0 0} 0"},
		{example, -1, "{0 0 0} 9"}, {example, 200001, "{0 0 0} 9"},
		{hills(), 0, "{0 0 0} 0"}, {hills(7), 0, "{0 0 0} 0"}, {hills(7, 7), 0, "{0 0 0} 0"}, {hills(7, 3), 9, "{0 4 0} 0"},
		{hills(0, 1, 1, 2, 3, 3), 0, "{3 0 0} 0"}, {hills(5, 5, 4, 4, 9), 0, "{5 1 1} 0"}, {hills(5, 5, 4, 4, 9), 1, "{5 1 1} 0"}, {hills(5, 5, 4, 4, 9), 2, "{4 0 0} 0"},
		{hills(0, 9, 0), 17, "{9 9 1} 0"}, {hills(0, 9, 0), 18, "{0 0 0} 0"}, {hills(0, -9, 0), 17, "{9 9 1} 0"},
		{hills(-100000, 100000, -100000), 200000, "{200000 200000 1} 0"},
	} {
		x, e := track.Climb(c.a, c.threshold)
		want(t, fmt.Sprint("Climb ", c.threshold, " of ", heights(c.a)), told(x, e), c.want)
	}
	runRanges(t, []rangeCase{{"Climb", 0, 200000, func(n int) api.Errno { _, e := track.Climb(full(), n); return e }}})
	randoms(10, 30, func(r *rand.Rand, a api.Activity) {
		threshold := r.Intn(30)
		x, e := track.Climb(a, threshold)
		want(t, fmt.Sprint("Climb ", threshold, " of ", heights(a)), told(x, e), told(slowClimb(heights(a), threshold), api.OK))
	})
}

// TestC6WhatFollows: without a threshold all growth counts; with a greater one neither number is greater.
func TestC6WhatFollows(t *testing.T) {
	r := rand.New(rand.NewSource(2))
	for range 300 {
		a := random(r, 200, 50)
		up, down := 0, 0
		for i := 1; i < len(a.Samples); i++ {
			d := a.Samples[i].Z - a.Samples[i-1].Z
			up, down = up+max(d, 0), down+max(-d, 0)
		}
		last, _ := track.Climb(a, 0)
		want(t, "without a threshold", told(last.Up, last.Down), told(up, down))
		for threshold := 1; threshold < 60; threshold++ {
			x, _ := track.Climb(a, threshold)
			if x.Up > last.Up || x.Down > last.Down || x.Up-x.Down != up-down {
				t.Errorf("threshold %d: %v, with less %v", threshold, x, last)
			}
			last = x
		}
	}
}

// slowHills looks at all pairs of samples.
func slowHills(a api.Activity, least, dip int) []api.Hill {
	z, l := heights(a), a.Samples
	isHill := func(i, j int) bool {
		for x := i; x <= j; x++ {
			for y := x; y <= j; y++ {
				if z[x] < z[i] || z[x] > z[j] || z[x]-z[y] > dip {
					return false
				}
			}
		}
		return z[j]-z[i] >= least
	}
	var all, list []api.Hill
	for i := range z {
		for j := i + 1; j < len(z); j++ {
			if isHill(i, j) {
				way := 0
				for k := i; k < j; k++ {
					way += length(l[k], l[k+1])
				}
				all = append(all, api.Hill{From: i, To: j, Rise: z[j] - z[i], Way: way})
			}
		}
	}
	for _, x := range all {
		if !slices.ContainsFunc(all, func(y api.Hill) bool { return x != y && y.From <= x.From && x.To <= y.To }) {
			list = append(list, x)
		}
	}
	return list
}

func TestC7Hills(t *testing.T) {
	example := hills(0, 12, 2, 15)
	for _, c := range []struct {
		a          api.Activity
		least, dip int
		want       string
	}{
		{example, 10, 5, "[{0 1 12 0} {2 3 13 0}] 0"}, {example, 10, 9, "[{0 1 12 0} {2 3 13 0}] 0"}, {example, 10, 10, "[{0 3 15 0}] 0"},
		{example, 13, 5, "[{2 3 13 0}] 0"}, {example, 14, 5, "[] 0"}, {example, 15, 10, "[{0 3 15 0}] 0"}, {example, 16, 200000, "[] 0"},
		{hills(), 1, 0, "[] 0"}, {hills(3), 1, 0, "[] 0"}, {hills(3, 3), 1, 0, "[] 0"}, {hills(3, 4), 1, 0, "[{0 1 1 0}] 0"}, {hills(4, 3), 1, 9, "[] 0"},
		// The part at the same height on both sides belongs to a hill.
		{hills(0, 0, 4, 4), 4, 0, "[{0 3 4 0}] 0"}, {hills(1, 0, 0, 4, 3, 4, 3), 4, 1, "[{1 5 4 0}] 0"}, {hills(1, 0, 0, 4, 3, 4, 3), 4, 0, "[{1 3 4 0}] 0"},
		// A fall that is too deep in small steps.
		{hills(0, 9, 8, 7, 6, 10), 3, 2, "[{0 1 9 0} {4 5 4 0}] 0"}, {hills(0, 9, 8, 7, 6, 10), 3, 3, "[{0 5 10 0}] 0"},
		// A hill between the top of another one and where it ends.
		{hills(0, 20, 12, 16, 9), 3, 10, "[{0 1 20 0} {2 3 4 0}] 0"},
		{hills(5, 9, 4, 8), 4, 100, "[{0 1 4 0} {2 3 4 0}] 0"},
		{hills(-100000, 100000), 200000, 0, "[{0 1 200000 0}] 0"},
		{walk([]int{0, 0, 0, 0}, []int{1, 3, 4, 0}, []int{2, 3, 5, 6}, []int{3, 3, 9, 9}, []int{4, 0, 0, 0}), 9, 0, "[{0 3 9 10}] 0"},
	} {
		l, e := track.Hills(c.a, c.least, c.dip)
		want(t, fmt.Sprint("Hills ", c.least, c.dip, " of ", heights(c.a)), told(l, e), c.want)
	}
	runRanges(t, []rangeCase{
		{"Hills, least", 1, 200000, func(n int) api.Errno { _, e := track.Hills(full(), n, 0); return e }},
		{"Hills, dip", 0, 200000, func(n int) api.Errno { _, e := track.Hills(full(), 1, n); return e }},
	})
	randoms(20, 30, func(r *rand.Rand, a api.Activity) {
		least, dip := 1+r.Intn(1+r.Intn(20)), r.Intn(1+r.Intn(20))
		l, e := track.Hills(a, least, dip)
		want(t, fmt.Sprint("Hills ", least, dip, " of ", heights(a)), told(l, e), told(slowHills(a, least, dip), api.OK))
	})
}

// TestC7ManyHills has the most samples, and all shapes that make hills long to find.
func TestC7ManyHills(t *testing.T) {
	flat, saw, slope := long(api.MaxSamples), long(api.MaxSamples), long(api.MaxSamples)
	for i := range api.MaxSamples {
		saw.Samples[i].Z = (i%2)*1000 - i/2
		slope.Samples[i].Z = i
	}
	begin := time.Now()
	l, e := track.Hills(flat, 1, 0)
	want(t, "flat", told(l, e), "[] 0")
	l, e = track.Hills(saw, 1000, 1001)
	want(t, "saw", told(len(l), l[9999], e), "10000 {19998 19999 1000 1} 0")
	l, e = track.Hills(slope, 1, 0)
	want(t, "slope", told(l, e), "[{0 19999 19999 19999}] 0")
	l, e = track.Hills(slope, 20000, 0)
	want(t, "slope that is too low", told(l, e), "[] 0")
	if d := time.Since(begin); d > 10*time.Second {
		t.Errorf("that took %v", d)
	}
}
