package track

import (
	"slices"

	"harrier/api"
	"harrier/quant"
	"harrier/record"
)

// Keep returns which samples can be true, if nobody is faster than fast: the most of them that agree with their neighbours.
func Keep(a api.Activity, fast int) ([]int, api.Errno) {
	if e := record.Check(a); e != api.OK {
		return nil, e
	}
	if !within(fast, 1, MaxFast) {
		return nil, api.ErrRange
	}
	if len(a.Samples) > MaxKeep {
		return nil, api.ErrSize
	}
	many := make([]int, len(a.Samples)) // how many samples the longest list from this one on has
	next := make([]int, len(a.Samples))
	first := -1
	// Downwards, so that of equally long lists the one met last has the lesser number.
	for i := len(a.Samples) - 1; i >= 0; i-- {
		many[i], next[i] = 1, -1
		for j := len(a.Samples) - 1; j > i; j-- {
			if many[j]+1 >= many[i] && agree(a.Samples[i], a.Samples[j], fast) {
				many[i], next[i] = many[j]+1, j
			}
		}
		if first < 0 || many[i] >= many[first] {
			first = i
		}
	}
	return follow(next, first), api.OK
}

// agree reports whether somebody can come from p to q.
func agree(p, q api.Sample, fast int) bool {
	// No two places are farther from each other than 3 * MaxPlace; the square of more could be beyond an int.
	reach := min(fast*(q.At-p.At), 3*api.MaxPlace)
	return square(p, q) <= reach*reach
}

// follow returns the number first, the next one of each, and so on before -1.
func follow(next []int, first int) []int {
	var list []int
	for i := first; i >= 0; i = next[i] {
		list = append(list, i)
	}
	return list
}

// Level returns the activity with each Z replaced by the middle one of those around it.
func Level(a api.Activity, width int) (api.Activity, api.Errno) {
	if e := record.Check(a); e != api.OK {
		return api.Activity{}, e
	}
	if !within(width, 0, MaxWidth) {
		return api.Activity{}, api.ErrRange
	}
	level := record.Clone(a)
	for i := range a.Samples {
		from, to := max(i-width, 0), min(i+width+1, len(a.Samples))
		level.Samples[i].Z = middle(a.Samples[from:to])
	}
	return level, api.OK
}

// middle returns the middle one of the heights, of two the lower one.
func middle(l []api.Sample) int {
	heights := make([]int, len(l))
	for i, x := range l {
		heights[i] = x.Z
	}
	slices.Sort(heights)
	return heights[(len(heights)-1)/2]
}

// Fill returns the activity with what is known on both sides of a gap filled in between.
func Fill(a api.Activity, gap int) (api.Activity, api.Errno) {
	if e := record.Check(a); e != api.OK {
		return api.Activity{}, e
	}
	if !within(gap, 0, api.MaxSpan) {
		return api.Activity{}, api.ErrRange
	}
	filled := record.Clone(a)
	at := func(x api.Sample) int { return x.At }
	fill(filled.Samples, gap, at, func(x *api.Sample) *int { return &x.Pulse })
	fill(filled.Samples, gap, at, func(x *api.Sample) *int { return &x.Power })
	fill(filled.Samples, gap, at, func(x *api.Sample) *int { return &x.Steps })
	return filled, api.OK
}

// fill gives the elements that lack a field (-1) what is between those of the next ones on both sides, if these are at most gap apart.
func fill[T any](l []T, gap int, at func(T) int, field func(*T) *int) {
	known := -1
	for i := range l {
		if *field(&l[i]) < 0 {
			continue
		}
		if known >= 0 && at(l[i])-at(l[known]) <= gap {
			bridge(l[known:i+1], at, field)
		}
		known = i
	}
}

// bridge gives the elements between the first and the last one what is between the fields of these two.
func bridge[T any](l []T, at func(T) int, field func(*T) *int) {
	first, last := l[0], l[len(l)-1]
	for i := 1; i < len(l)-1; i++ {
		*field(&l[i]) = between(*field(&first), *field(&last), at(l[i])-at(first), at(last)-at(first))
	}
}

// between returns the number that is part of whole on the way from p to q.
func between(p, q, part, whole int) int {
	more, _ := quant.Scale(q-p, part, whole, quant.Near)
	return p + more
}
