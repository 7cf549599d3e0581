package trail

import (
	"cmp"
	"slices"

	"harrier/api"
	"harrier/record"
	"harrier/track"
)

// Fit returns by how many seconds the clock of b is ahead of that of a, so that both fit best.
func Fit(a, b api.Activity, most, least int) (api.Match, bool, api.Errno) {
	for _, x := range []api.Activity{a, b} {
		if e := record.Check(x); e != api.OK {
			return api.Match{}, false, e
		}
	}
	if len(a.Samples) > MaxSamples || len(b.Samples) > MaxSamples {
		return api.Match{}, false, api.ErrSize
	}
	f := fitting{most, least}
	if !f.isRight() {
		return api.Match{}, false, api.ErrRange
	}
	m, ok := f.best(placesOf(a), b.Samples, b.Start-a.Start)
	return m, ok, api.OK
}

// A fitting looks for shifts up to most, with which least samples or more count.
type fitting struct{ most, least int }

func (f fitting) isRight() bool {
	return within(f.most, 0, MaxShift) && within(f.least, 1, MaxSamples)
}

// placesOf returns where somebody was at each second of an activity.
func placesOf(a api.Activity) []api.Point {
	places := make([]api.Point, 0, record.Span(a)+1)
	for s := range track.Seconds(a.Samples) {
		places = append(places, api.Point{X: s.X, Y: s.Y})
	}
	return places
}

// best returns the best one of all shifts, if there is one. The samples begin so many seconds later than the places.
func (f fitting) best(places []api.Point, l []api.Sample, later int) (best api.Match, found bool) {
	for shift := -f.most; shift <= f.most; shift++ {
		among := between(l, shift-later, shift-later+len(places))
		if len(among) < f.least {
			continue
		}
		m := api.Match{Shift: shift, Many: len(among), Sum: sumOf(places, among, later-shift)}
		if !found || compare(m, best) < 0 {
			best, found = m, true
		}
	}
	return best, found
}

// between returns the samples from a second on, before another one.
func between(l []api.Sample, from, to int) []api.Sample {
	search := func(second int) int {
		n, _ := slices.BinarySearchFunc(l, second, func(s api.Sample, second int) int { return cmp.Compare(s.At, second) })
		return n
	}
	return l[search(from):search(to)]
}

// sumOf returns the sum of the squares of the distances of samples, moved by so many seconds, from places.
func sumOf(places []api.Point, l []api.Sample, later int) (sum int) {
	for _, s := range l {
		p := places[s.At+later]
		x, y := s.X-p.X, s.Y-p.Y
		sum += min(x*x+y*y, maxSquare)
	}
	return sum
}

// compare is below 0 if m fits better than n.
func compare(m, n api.Match) int {
	return cmp.Or(
		cmp.Compare(m.Sum*n.Many, n.Sum*m.Many),
		cmp.Compare(n.Many, m.Many),
		cmp.Compare(max(m.Shift, -m.Shift), max(n.Shift, -n.Shift)),
		cmp.Compare(n.Shift, m.Shift),
	)
}

// Pair returns the pairs of activities that are near each other, each activity in one pair at most.
func Pair(l []api.Activity, most, least, apart int) ([][2]int, api.Errno) {
	f := fitting{most, least}
	if e := checkPair(l, f, apart); e != api.OK {
		return nil, e
	}
	var pairs [][2]int
	taken := make([]bool, len(l))
	for i, a := range l {
		if taken[i] {
			continue
		}
		places := placesOf(a)
		for j := i + 1; j < len(l) && !taken[i]; j++ {
			b := l[j]
			if taken[j] || a.Sport != b.Sport {
				continue
			}
			m, ok := f.best(places, b.Samples, b.Start-a.Start)
			if ok && m.Sum <= m.Many*apart*apart {
				pairs = append(pairs, [2]int{i, j})
				taken[i], taken[j] = true, true
			}
		}
	}
	return pairs, api.OK
}

func checkPair(l []api.Activity, f fitting, apart int) api.Errno {
	if len(l) > maxPair {
		return api.ErrSize
	}
	for _, a := range l {
		if e := record.Check(a); e != api.OK {
			return e
		}
		if len(a.Samples) > MaxSamples {
			return api.ErrSize
		}
	}
	if !f.isRight() || !within(apart, 0, maxApart) {
		return api.ErrRange
	}
	return api.OK
}
