package trail

import (
	"harrier/api"
	"harrier/record"
)

// Merge returns one recording made of two, of which the clock of b is shift seconds ahead.
func Merge(a, b api.Activity, shift int) (api.Activity, api.Errno) {
	for _, x := range []api.Activity{a, b} {
		if e := record.Check(x); e != api.OK {
			return api.Activity{}, e
		}
	}
	if a.Sport != b.Sport {
		return api.Activity{}, api.ErrKind
	}
	if !within(shift, -api.MaxMoment, api.MaxMoment) {
		return api.Activity{}, api.ErrRange
	}
	m := record.Clone(a)
	m.Samples = woven(a.Samples, b.Samples, b.Start-shift-a.Start)
	m.Tags = record.JoinTags(a.Tags, b.Tags)
	if len(m.Samples) > api.MaxSamples || len(m.Tags) > api.MaxTags {
		return api.Activity{}, api.ErrSize
	}
	beginWithSamples(&m)
	if e := record.Check(m); e != api.OK {
		return api.Activity{}, e
	}
	return m, api.OK
}

// woven returns the samples of two recordings by their seconds, of which the second one begins so many seconds later.
func woven(l, m []api.Sample, later int) []api.Sample {
	var list []api.Sample
	for len(l) > 0 && len(m) > 0 {
		x, y := l[0], m[0]
		y.At += later
		switch {
		case x.At < y.At:
			list, l = append(list, x), l[1:]
		case y.At < x.At:
			list, m = append(list, y), m[1:]
		default:
			list, l, m = append(list, filled(x, y)), l[1:], m[1:]
		}
	}
	list = append(list, l...)
	for _, y := range m {
		y.At += later
		list = append(list, y)
	}
	return list
}

// filled returns a sample with those fields of another one that it has not.
func filled(x, y api.Sample) api.Sample {
	for n := api.FieldPulse; n <= api.FieldSteps; n++ {
		if field := fieldOf(&x, n); *field < 0 {
			*field = *fieldOf(&y, n)
		}
	}
	return x
}

// beginWithSamples makes an activity begin at the moment of its first sample; all its moments stay.
func beginWithSamples(a *api.Activity) {
	if len(a.Samples) == 0 {
		return
	}
	later := a.Samples[0].At
	a.Start += later
	for i := range a.Samples {
		a.Samples[i].At -= later
	}
	for i := range a.Laps {
		a.Laps[i].From -= later
		a.Laps[i].To -= later
	}
}
