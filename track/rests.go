package track

import (
	"cmp"
	"slices"

	"harrier/api"
	"harrier/record"
)

// Idle returns the seconds of steps that have more than gap.
func Idle(a api.Activity, gap int) ([]api.Span, api.Errno) {
	if e := record.Check(a); e != api.OK {
		return nil, e
	}
	if !within(gap, 1, api.MaxSpan) {
		return nil, api.ErrRange
	}
	idle := func(s step) bool { return s.seconds() > gap }
	return rows(a.Samples, 1, idle), api.OK
}

// Still returns the seconds of steps on which somebody hardly moved, for at least least seconds.
func Still(a api.Activity, slow, least int) ([]api.Span, api.Errno) {
	if e := record.Check(a); e != api.OK {
		return nil, e
	}
	if !within(slow, 0, MaxFast) || !within(least, 1, api.MaxSpan) {
		return nil, api.ErrRange
	}
	still := func(s step) bool { return s.way() <= slow*s.seconds() }
	return rows(a.Samples, least, still), api.OK
}

// rows returns the seconds of the steps that are meant, neighbours together, where they are at least least.
func rows(l []api.Sample, least int, meant func(step) bool) []api.Span {
	var list []api.Span
	for s := range steps(l) {
		if !meant(s) {
			continue
		}
		if n := len(list); n > 0 && list[n-1].To == s.p.At-1 {
			list[n-1].To = s.q.At - 1
		} else {
			list = append(list, api.Span{From: s.p.At, To: s.q.At - 1})
		}
	}
	return slices.DeleteFunc(list, func(x api.Span) bool { return x.To-x.From+1 < least })
}

// Moving returns how many seconds somebody neither paused nor stood still.
func Moving(a api.Activity, gap, slow, least int) (int, api.Errno) {
	idle, e := Idle(a, gap)
	if e != api.OK {
		return 0, e
	}
	still, e := Still(a, slow, least)
	if e != api.OK {
		return 0, e
	}
	rests := append(idle, still...)
	slices.SortFunc(rests, func(x, y api.Span) int { return cmp.Compare(x.From, y.From) })
	moving, end := record.Span(a), 0
	for _, x := range rests {
		// A second can be in both lists.
		moving -= max(x.To+1-max(x.From, end), 0)
		end = max(end, x.To+1)
	}
	return moving, api.OK
}
