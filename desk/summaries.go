package desk

import (
	"cmp"
	"strconv"
	"strings"

	"harrier/api"
	"harrier/effort"
	"harrier/load"
	"harrier/quant"
	"harrier/record"
	"harrier/track"
	"harrier/workout"
)

// threshold is of the climbs that summaries tell, in decimetres.
const threshold = 20

// LoadOf returns the load of an activity: by its power, or, if that does not tell it, by its pulse.
func LoadOf(a api.Activity, h api.Athlete) (int, api.Errno) {
	limits := []int{h.Pulse * 60 / 100, h.Pulse * 80 / 100, h.Pulse * 90 / 100}
	if e := cmp.Or(record.Check(a), workout.CheckAthlete(h), effort.CheckZones(limits)); e != api.OK {
		return 0, e
	}
	cost, ok, e := load.Power(streamOf(a, api.StreamPower), h.Power)
	if !ok && e == api.OK {
		cost, e = load.Pulse(streamOf(a, api.StreamPulse), limits, []int{0, 50, 100, 200})
	}
	return min(cost, load.MaxLoad), e
}

// streamOf has an activity that is right.
func streamOf(a api.Activity, kind int) []int {
	l, _ := effort.Stream(a, kind)
	return l
}

// wayOf returns how long the way of an activity is that is right.
func wayOf(a api.Activity) int {
	ways, _ := track.Ways(a)
	if len(ways) == 0 {
		return 0
	}
	return ways[len(ways)-1]
}

// A summary is the lines that tell of an activity, as far as they are written, and the first error that was met.
type summary struct {
	activity api.Activity
	lines    strings.Builder
	failed   api.Errno
}

// Summary tells in lines what an activity was.
func Summary(a api.Activity, h api.Athlete, z api.Zone) (string, api.Errno) {
	if e := cmp.Or(record.Check(a), workout.CheckAthlete(h), quant.CheckZone(z)); e != api.OK {
		return "", e
	}
	s := &summary{activity: a}
	s.line(a.Name, strconv.Itoa(a.Sport), s.text(quant.StampText(z, a.Start)))
	s.ways()
	cost, e := LoadOf(a, h)
	s.line("load", s.text(strconv.Itoa(cost), e))
	s.pulse()
	s.power()
	s.laps()
	if s.failed != api.OK {
		return "", s.failed
	}
	return s.lines.String(), api.OK
}

func (s *summary) line(words ...string) { s.lines.WriteString(strings.Join(words, " ") + "\n") }

// text returns a text, and keeps its error.
func (s *summary) text(text string, e api.Errno) string {
	s.failed = cmp.Or(s.failed, e)
	return text
}

// ways writes how long it took, how far it was, and how fast.
func (s *summary) ways() {
	moving, _ := track.Moving(s.activity, Gap, Slow, Rest)
	s.line("time", s.text(quant.DurationText(record.Span(s.activity))), "moving", s.text(quant.DurationText(moving)))
	way := wayOf(s.activity)
	climb, _ := track.Climb(s.activity, threshold)
	s.line("way", s.text(quant.DistanceText(way)), "up", strconv.Itoa(climb.Up), "down", strconv.Itoa(climb.Down))
	pace := nothing
	if n, e := quant.PaceOf(way, moving); e == api.OK {
		pace = s.text(quant.PaceText(n))
	}
	s.line("pace", pace)
}

func (s *summary) pulse() {
	if mean, most, ok := measured(streamOf(s.activity, api.StreamPulse)); ok {
		s.line("pulse", mean, most)
	}
}

// power writes how hard it was too, and the best efforts.
func (s *summary) power() {
	stream := streamOf(s.activity, api.StreamPower)
	mean, most, ok := measured(stream)
	if !ok {
		return
	}
	hard := nothing
	if n, ok, _ := effort.Hard(stream); ok {
		hard = strconv.Itoa(n)
	}
	s.line("power", mean, most, hard)
	curve, _ := effort.Curve(stream, []int{5, 60, 300, 1200})
	for _, x := range curve {
		if x.Found {
			s.line("best", strconv.Itoa(x.Size), strconv.Itoa(x.Sum/x.Size))
		}
	}
}

// measured returns the mean of the numbers of a stream that are known, and the greatest one, if there is one.
func measured(stream []int) (mean, most string, ok bool) {
	many, sum, greatest := 0, 0, 0
	for _, n := range stream {
		if n >= 0 {
			many, sum, greatest = many+1, sum+n, max(greatest, n)
		}
	}
	if many == 0 {
		return "", "", false
	}
	n, _ := quant.Div(sum, many, quant.Near)
	return strconv.Itoa(n), strconv.Itoa(greatest), true
}

func (s *summary) laps() {
	parts, _ := effort.Parts(s.activity)
	for i, x := range s.activity.Laps {
		s.line("lap", s.text(quant.DurationText(x.To-x.From)), s.text(quant.DistanceText(parts[i].Way)), x.Name)
	}
}
