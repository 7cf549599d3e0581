package track

import (
	"cmp"
	"iter"
	"slices"

	"harrier/api"
	"harrier/record"
)

// At returns where somebody was at a second.
func At(a api.Activity, second int) (api.Sample, api.Errno) {
	if e := record.Check(a); e != api.OK {
		return api.Sample{}, e
	}
	if len(a.Samples) == 0 {
		return api.Sample{}, api.ErrEmpty
	}
	if !within(second, 0, record.Span(a)) {
		return api.Sample{}, api.ErrRange
	}
	return sampleAt(a.Samples, second), api.OK
}

// sampleAt has the sample at a second that is from that of the first one to that of the last one.
func sampleAt(l []api.Sample, second int) api.Sample {
	i, found := search(l, second)
	if found {
		return l[i]
	}
	return onStep(l[i-1], l[i], second)
}

// Seconds yields for each second of the span where somebody was, as At has it. The samples are those of an activity that is right.
func Seconds(l []api.Sample) iter.Seq[api.Sample] {
	return func(yield func(api.Sample) bool) {
		for i, q := range l {
			p := l[max(i-1, 0)]
			for second := p.At + 1; second < q.At; second++ {
				if !yield(onStep(p, q, second)) {
					return
				}
			}
			if !yield(q) {
				return
			}
		}
	}
}

// search returns the number of the first sample that is not before a second, and whether it is at it.
func search(l []api.Sample, second int) (int, bool) {
	return slices.BinarySearchFunc(l, second, func(x api.Sample, second int) int { return cmp.Compare(x.At, second) })
}

// onStep returns the sample at a second between p and q.
func onStep(p, q api.Sample, second int) api.Sample {
	part, whole := second-p.At, q.At-p.At
	x := p
	x.At = second
	x.X = between(p.X, q.X, part, whole)
	x.Y = between(p.Y, q.Y, part, whole)
	x.Z = between(p.Z, q.Z, part, whole)
	return x
}

// miss returns the square of how far x is from where somebody would have been who went straight from p to q.
func miss(p, q, x api.Sample) int {
	return square(onStep(p, q, x.At), x)
}

// Simple returns the numbers of samples between which the others are near, found from coarse to fine.
func Simple(a api.Activity, most int) ([]int, api.Errno) {
	if e := checkThinning(a, most, MaxSimple); e != api.OK {
		return nil, e
	}
	if len(a.Samples) == 0 {
		return nil, api.OK
	}
	kept := []int{0}
	ahead := []int{len(a.Samples) - 1} // samples that are kept too, the next one last
	for len(ahead) > 0 {
		next := ahead[len(ahead)-1]
		worst, far := worstBetween(a.Samples, kept[len(kept)-1], next)
		if far > most*most {
			ahead = append(ahead, worst)
			continue
		}
		if next > 0 {
			kept = append(kept, next)
		}
		ahead = ahead[:len(ahead)-1]
	}
	return kept, api.OK
}

func checkThinning(a api.Activity, most, limit int) api.Errno {
	if e := record.Check(a); e != api.OK {
		return e
	}
	if !within(most, 0, api.MaxPlace) {
		return api.ErrRange
	}
	if len(a.Samples) > limit {
		return api.ErrSize
	}
	return api.OK
}

// worstBetween returns the number of the sample between two others that they miss by the most, and the square of how far (0 if they miss none).
func worstBetween(l []api.Sample, from, to int) (worst, far int) {
	for k := from + 1; k < to; k++ {
		if n := miss(l[from], l[to], l[k]); n > far {
			worst, far = k, n
		}
	}
	return worst, far
}

// Fewest returns the numbers of the fewest samples between which the others are near.
func Fewest(a api.Activity, most int) ([]int, api.Errno) {
	if e := checkThinning(a, most, MaxFewest); e != api.OK {
		return nil, e
	}
	if len(a.Samples) == 0 {
		return nil, api.OK
	}
	last := len(a.Samples) - 1
	many := make([]int, len(a.Samples)) // how many steps the shortest list from this sample to the last one has
	next := make([]int, len(a.Samples))
	next[last] = -1
	for i := last - 1; i >= 0; i-- {
		many[i], next[i] = many[i+1]+1, i+1
		for j := i + 2; j <= last; j++ {
			// Of equally short lists the one met first has the lesser number.
			if many[j]+1 < many[i] && areNear(a.Samples, i, j, most) {
				many[i], next[i] = many[j]+1, j
			}
		}
	}
	return follow(next, 0), api.OK
}

// areNear reports whether the samples between two others are at most as far from the way between these.
func areNear(l []api.Sample, from, to, most int) bool {
	for k := from + 1; k < to; k++ {
		if miss(l[from], l[to], l[k]) > most*most {
			return false
		}
	}
	return true
}

// Resample returns the activity with samples at each multiple of step, and at the end.
func Resample(a api.Activity, step int) (api.Activity, api.Errno) {
	if e := record.Check(a); e != api.OK {
		return api.Activity{}, e
	}
	if !within(step, 1, api.MaxSpan) {
		return api.Activity{}, api.ErrRange
	}
	span := record.Span(a)
	if (span+step-1)/step+1 > api.MaxSamples {
		return api.Activity{}, api.ErrSize
	}
	b := record.Clone(a)
	if len(a.Samples) == 0 {
		return b, api.OK
	}
	b.Samples = nil
	for second := 0; second < span; second += step {
		b.Samples = append(b.Samples, sampleAt(a.Samples, second))
	}
	b.Samples = append(b.Samples, sampleAt(a.Samples, span))
	return b, api.OK
}
