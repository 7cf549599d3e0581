package workout

import (
	"slices"

	"harrier/api"
)

// Plain returns a workout without repeats.
func Plain(w api.Workout) (api.Workout, api.Errno) {
	if e := Check(w); e != api.OK {
		return api.Workout{}, e
	}
	if countSteps(w.Items) > MaxItems {
		return api.Workout{}, api.ErrSize
	}
	return api.Workout{Name: w.Name, Items: appendSteps(nil, w.Items)}, api.OK
}

// appendSteps appends steps and ramps as they are done.
func appendSteps(l, items []api.Item) []api.Item {
	for _, x := range items {
		if x.Kind != ItemRepeat {
			x.Items = nil // an empty list too can have memory
			l = append(l, x)
			continue
		}
		for range x.Times {
			l = appendSteps(l, x.Items)
		}
	}
	return l
}

// Fold returns a workout with repeats where they make it shorter.
func Fold(w api.Workout) (api.Workout, api.Errno) {
	plain, e := Plain(w)
	if e != api.OK {
		return api.Workout{}, e
	}
	return api.Workout{Name: plain.Name, Items: folded(plain.Items, 0)}, api.OK
}

// folded returns a list within so many repeats with repeats of its own.
func folded(l []api.Item, nest int) []api.Item {
	if nest == MaxNest {
		return slices.Clone(l)
	}
	var short []api.Item
	for len(l) > 0 {
		long, times, ok := bestRow(l)
		if !ok {
			short, l = append(short, l[0]), l[1:]
			continue
		}
		row := folded(l[:long], nest+1)
		short, l = append(short, api.Item{Kind: ItemRepeat, Times: times, Items: row}), l[long*times:]
	}
	return short
}

// bestRow returns how long the row is with which the list begins that makes it shorter by the most items as a repeat, and how often it stands there.
func bestRow(l []api.Item) (long, times int, ok bool) {
	best := 0
	for n := 1; 2*n <= len(l); n++ {
		m := countRow(l, n)
		if less := n*m - n - 1; less > best {
			best, long, times = less, n, m
		}
	}
	return long, times, best > 0
}

// countRow returns how often the first n items stand at the beginning of the list, one time after the other.
func countRow(l []api.Item, n int) int {
	times := 1
	for times < MaxTimes && (times+1)*n <= len(l) && slices.EqualFunc(l[:n], l[times*n:(times+1)*n], sameItem) {
		times++
	}
	return times
}
