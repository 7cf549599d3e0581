package effort

import (
	"harrier/api"
	"harrier/record"
	"harrier/track"
)

// A step goes from the sample p to the next one, q.
type step struct{ p, q api.Sample }

func (s step) seconds() int { return s.q.At - s.p.At }

func (s step) isIdle() bool { return s.seconds() > MaxGap }

// value returns what each second of the step has in a stream of what is measured at samples.
func (s step) value(kind int) int {
	switch {
	case s.isIdle():
		return -1
	case kind == api.StreamPulse:
		return s.p.Pulse
	case kind == api.StreamPower:
		return s.p.Power
	default:
		return s.p.Steps
	}
}

// amount returns what all seconds of the step have together in a stream of what is gone between samples.
func (s step) amount(kind int) int {
	switch {
	case s.isIdle():
		return 0
	case kind == api.StreamWay:
		way, _ := track.Step(s.p, s.q)
		return way
	default:
		return max(s.q.Z-s.p.Z, 0)
	}
}

// share returns how much of an amount the seconds of the step from from on, before to, have.
func (s step) share(amount, from, to int) int {
	return amount*to/s.seconds() - amount*from/s.seconds()
}

// Stream returns what each second of an activity has of a kind.
func Stream(a api.Activity, kind int) ([]int, api.Errno) {
	if e := record.Check(a); e != api.OK {
		return nil, e
	}
	if !within(kind, api.StreamPulse, api.StreamClimb) {
		return nil, api.ErrKind
	}
	return streamOf(a, kind), api.OK
}

func streamOf(a api.Activity, kind int) []int {
	l := make([]int, 0, record.Span(a))
	for i := 1; i < len(a.Samples); i++ {
		s := step{a.Samples[i-1], a.Samples[i]}
		if kind == api.StreamWay || kind == api.StreamClimb {
			l = s.appendShares(l, s.amount(kind))
		} else {
			l = s.appendValues(l, s.value(kind))
		}
	}
	return l
}

func (s step) appendShares(l []int, amount int) []int {
	for second := range s.seconds() {
		l = append(l, s.share(amount, second, second+1))
	}
	return l
}

func (s step) appendValues(l []int, value int) []int {
	for range s.seconds() {
		l = append(l, value)
	}
	return l
}
