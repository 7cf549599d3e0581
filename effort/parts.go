package effort

import (
	"harrier/api"
	"harrier/record"
)

const maxWay = 1000000000 // decimetres of the laps of EveryWay

// PartOf returns what an activity was from a second on, before another one.
func PartOf(a api.Activity, from, to int) (api.Part, api.Errno) {
	if e := record.Check(a); e != api.OK {
		return api.Part{}, e
	}
	if from < 0 || from > to || to > record.Span(a) {
		return api.Part{}, api.ErrRange
	}
	return partOf(a, from, to), api.OK
}

// partOf adds up steps, not seconds: there can be many more of these.
func partOf(a api.Activity, from, to int) api.Part {
	x := api.Part{From: from, To: to}
	for i := 1; i < len(a.Samples); i++ {
		s := step{a.Samples[i-1], a.Samples[i]}
		first, end := max(from, s.p.At)-s.p.At, min(to, s.q.At)-s.p.At
		if first >= end {
			continue
		}
		x.Way += s.share(s.amount(api.StreamWay), first, end)
		x.Climb += s.share(s.amount(api.StreamClimb), first, end)
		addKnown(&x.Pulse, &x.PulseKnown, s.value(api.StreamPulse), end-first)
		addKnown(&x.Power, &x.PowerKnown, s.value(api.StreamPower), end-first)
		addKnown(&x.Steps, &x.StepKnown, s.value(api.StreamSteps), end-first)
	}
	return x
}

// addKnown adds a value that so many seconds have, if it is known.
func addKnown(sum, known *int, value, seconds int) {
	if value < 0 {
		return
	}
	*sum += value * seconds
	*known += seconds
}

// Parts returns what an activity was in each of its laps.
func Parts(a api.Activity) ([]api.Part, api.Errno) {
	if e := record.Check(a); e != api.OK {
		return nil, e
	}
	var list []api.Part
	for _, x := range a.Laps {
		list = append(list, partOf(a, x.From, x.To))
	}
	return list, api.OK
}

// EveryWay returns laps in each of which so far was gone.
func EveryWay(a api.Activity, way int) ([]api.Lap, api.Errno) {
	if e := record.Check(a); e != api.OK {
		return nil, e
	}
	if !within(way, 1, maxWay) {
		return nil, api.ErrRange
	}
	var ends []int
	gone := 0
	for second, n := range streamOf(a, api.StreamWay) {
		gone += n
		if gone >= way {
			ends = append(ends, second+1)
			gone = 0
		}
	}
	return lapsTo(ends, record.Span(a))
}

// EveryTime returns laps of so many seconds.
func EveryTime(a api.Activity, seconds int) ([]api.Lap, api.Errno) {
	if e := record.Check(a); e != api.OK {
		return nil, e
	}
	if !within(seconds, 1, api.MaxSpan) {
		return nil, api.ErrRange
	}
	var ends []int
	for end := seconds; end <= record.Span(a); end += seconds {
		ends = append(ends, end)
	}
	return lapsTo(ends, record.Span(a))
}

// lapsTo returns laps with these ends, one behind the other, and one of what is left of the span. It takes the ends over.
func lapsTo(ends []int, span int) ([]api.Lap, api.Errno) {
	from := 0
	var list []api.Lap
	for _, to := range append(ends, span) {
		if from == to {
			// Nothing is left.
			break
		}
		if len(list) == api.MaxLaps {
			return nil, api.ErrSize
		}
		list = append(list, api.Lap{From: from, To: to})
		from = to
	}
	return list, api.OK
}
