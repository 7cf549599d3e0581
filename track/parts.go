package track

import (
	"slices"

	"harrier/api"
	"harrier/record"
)

// Only returns the activity with just the samples that have the numbers.
func Only(a api.Activity, l []int) (api.Activity, api.Errno) {
	if e := record.Check(a); e != api.OK {
		return api.Activity{}, e
	}
	for i := 1; i < len(l); i++ {
		if l[i] <= l[i-1] {
			return api.Activity{}, api.ErrOrder
		}
	}
	var samples []api.Sample
	for _, n := range l {
		if !within(n, 0, len(a.Samples)-1) {
			return api.Activity{}, api.ErrNone
		}
		samples = append(samples, a.Samples[n])
	}
	return checked(part(a, samples))
}

// Cut returns what somebody did between two seconds.
func Cut(a api.Activity, from, to int) (api.Activity, api.Errno) {
	if e := record.Check(a); e != api.OK {
		return api.Activity{}, e
	}
	if len(a.Samples) == 0 {
		return api.Activity{}, api.ErrEmpty
	}
	if from < 0 || from >= to || to > record.Span(a) {
		return api.Activity{}, api.ErrRange
	}
	samples := []api.Sample{sampleAt(a.Samples, from)}
	for _, x := range a.Samples {
		if from < x.At && x.At < to {
			samples = append(samples, x)
		}
	}
	samples = append(samples, sampleAt(a.Samples, to))
	return checked(part(a, samples))
}

// part returns the activity with these samples of it, beginning with the first of them. It takes the samples over.
func part(a api.Activity, samples []api.Sample) api.Activity {
	b := record.Clone(a)
	b.Samples = samples
	later := 0
	if len(samples) > 0 {
		later = samples[0].At
	}
	b.Start += later
	moveSamples(b.Samples, -later)
	b.Laps = nil
	for _, x := range a.Laps {
		x.From, x.To = max(x.From-later, 0), min(x.To-later, record.Span(b))
		if x.From < x.To {
			b.Laps = append(b.Laps, x)
		}
	}
	return b
}

func moveSamples(l []api.Sample, by int) {
	for i := range l {
		l[i].At += by
	}
}

// checked returns an activity if it is right.
func checked(a api.Activity) (api.Activity, api.Errno) {
	if e := record.Check(a); e != api.OK {
		return api.Activity{}, e
	}
	return a, api.OK
}

// Join returns the activity that has b behind a.
func Join(a, b api.Activity) (api.Activity, api.Errno) {
	for _, x := range []api.Activity{a, b} {
		if e := record.Check(x); e != api.OK {
			return api.Activity{}, e
		}
	}
	if a.Sport != b.Sport {
		return api.Activity{}, api.ErrKind
	}
	later := b.Start - a.Start
	if later < record.Span(a) {
		return api.Activity{}, api.ErrState
	}
	b = record.Clone(b)
	moveSamples(b.Samples, later)
	for i := range b.Laps {
		b.Laps[i].From += later
		b.Laps[i].To += later
	}
	if len(a.Samples) > 0 && len(b.Samples) > 0 && b.Samples[0].At == record.Span(a) {
		b.Samples = b.Samples[1:]
	}
	a.Samples = slices.Concat(a.Samples, b.Samples)
	a.Laps = slices.Concat(a.Laps, b.Laps)
	a.Tags = record.JoinTags(a.Tags, b.Tags)
	// The check asks for the sizes first.
	return checked(a)
}
