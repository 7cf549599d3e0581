package workout

import (
	"slices"

	"harrier/api"
	"harrier/quant"
)

// Timeline returns the blocks of a workout for an athlete.
func Timeline(w api.Workout, h api.Athlete) ([]api.Block, api.Errno) {
	if e := checkBoth(w, h); e != api.OK {
		return nil, e
	}
	return timelineOf(w, h)
}

// timelineOf has a workout and an athlete that are right.
func timelineOf(w api.Workout, h api.Athlete) ([]api.Block, api.Errno) {
	var l []api.Block
	end := 0
	for _, x := range appendSteps(nil, w.Items) {
		b := blockOf(x, h)
		b.From = end
		end += secondsOf(x, b, h)
		b.To = end
		l = append(l, b)
	}
	if end > api.MaxSpan {
		return nil, api.ErrSize
	}
	return l, api.OK
}

// blockOf returns the block of a step or ramp that nobody has put into time yet.
func blockOf(x api.Item, h api.Athlete) api.Block {
	first, last := numberFor(h, x.Aim, x.Aim.Low), numberFor(h, x.Aim, x.Aim.High)
	b := api.Block{Name: x.Name, Measure: x.Aim.Measure, Low: min(first, last), High: max(first, last)}
	if x.Kind == ItemRamp {
		b.First, b.Last = first, last
	}
	return b
}

// numberFor returns what one of the numbers of an aim is for an athlete.
func numberFor(h api.Athlete, a api.Aim, n int) int {
	if !a.Percent {
		return n
	}
	switch a.Measure {
	case AimPower:
		n, _ = quant.Scale(h.Power, n, 100, quant.Near)
	case AimPulse:
		n, _ = quant.Scale(h.Pulse, n, 100, quant.Near)
	case AimPace:
		n, _ = quant.Scale(h.Pace, 100, n, quant.Near)
	}
	return min(max(n, 1), measures[a.Measure].most)
}

// secondsOf returns how long a step or ramp takes that becomes this block.
func secondsOf(x api.Item, b api.Block, h api.Athlete) int {
	if x.Way == 0 {
		return x.Seconds
	}
	pace := h.Pace
	if b.Measure == AimPace {
		pace = (b.Low + b.High) / 2
	}
	seconds, _ := quant.TimeFor(x.Way, pace)
	return max(seconds, 1)
}

// AimAt returns the aim at a second.
func AimAt(w api.Workout, h api.Athlete, second int) (low, high int, e api.Errno) {
	l, e := Timeline(w, h)
	if e != api.OK {
		return 0, 0, e
	}
	at := slices.IndexFunc(l, func(b api.Block) bool { return b.From <= second && second < b.To })
	if at < 0 {
		return 0, 0, api.ErrRange
	}
	b := l[at]
	if b.First == 0 { // no aim of a ramp is 0
		return b.Low, b.High, api.OK
	}
	change, e := quant.Div((b.Last-b.First)*(2*(second-b.From)+1), 2*(b.To-b.From), quant.Near)
	return b.First + change, b.First + change, e
}
