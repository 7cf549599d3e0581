package veil_test

import (
	"math/rand"
	"slices"

	"harrier/api"
	"harrier/record"
)

// randomRule makes a rule near the places, times and names of random activities.
func randomRule(r *rand.Rand) api.VeilRule {
	from := 1 + r.Intn(3)
	switch 1 + r.Intn(8) {
	case api.VeilPlace:
		return place(from, r.Intn(40)-20, r.Intn(40)-20, r.Intn(1+r.Intn(25)))
	case api.VeilHours:
		first := one(r, r.Intn(300), 86000+r.Intn(400))
		return hours(from, first, min(first+r.Intn(200), 86399))
	case api.VeilField:
		return field(from, 1+r.Intn(4))
	case api.VeilTag:
		return tag(from, one(r, "a", "b", "none", "never"))
	case api.VeilSport:
		return sport(from, one(r, api.Swim, api.Walk, api.Ski))
	case api.VeilDay:
		return day(from)
	case api.VeilName:
		return name(from)
	}
	return grid(from, 1+r.Intn(1+r.Intn(12)))
}

func randomVeil(r *rand.Rand, many int) (v api.Veil) {
	for range r.Intn(many + 1) {
		v.Rules = append(v.Rules, randomRule(r))
	}
	return v
}

// randomActivity makes an activity with pauses that are just long enough, or just not, and days that end within it.
func randomActivity(r *rand.Rand) api.Activity {
	a := api.Activity{Name: one(r, "a", "activity", "long"), Sport: one(r, api.Run, api.Run, api.Ride, api.Swim), Start: one(r, 0, 86400-r.Intn(200), 86400*7+r.Intn(300))}
	at, size := 0, 1+r.Intn(20)
	for range r.Intn(1 + r.Intn(20)) {
		a.Samples = append(a.Samples, api.Sample{At: at, X: r.Intn(2*size) - size, Y: r.Intn(2*size) - size, Z: r.Intn(9) - 4, Pulse: r.Intn(4) - 1, Power: r.Intn(3) - 1, Steps: max(r.Intn(9)-5, -1)})
		at += one(r, 1, 1, 2, 5, 30, 59, 60, 61, 1+r.Intn(90))
	}
	for _, x := range []string{"a", "b", "c"} {
		if r.Intn(3) == 0 {
			a.Tags = append(a.Tags, x)
		}
	}
	a.Laps = randomLaps(r, a)
	return a
}

// randomLaps makes laps most of which begin and end at samples.
func randomLaps(r *rand.Rand, a api.Activity) (l []api.Lap) {
	var ends []int
	for _, s := range a.Samples {
		if r.Intn(2) == 0 {
			ends = append(ends, s.At)
		} else if r.Intn(10) == 0 {
			ends = append(ends, s.At+1)
		}
	}
	for i := 1; i < len(ends); i++ {
		if ends[i-1] < ends[i] && ends[i] <= record.Span(a) && r.Intn(4) > 0 {
			l = append(l, api.Lap{From: ends[i-1], To: ends[i], Name: one(r, "", "lap", "a lap")})
		}
	}
	return l
}

// slowAll tells by the words of the document whether a level does not see an activity at all.
func slowAll(v api.Veil, level int, a api.Activity) bool {
	for _, x := range v.Rules {
		if level >= x.From && (x.Kind == api.VeilSport && x.N == a.Sport || x.Kind == api.VeilTag && slices.Index(a.Tags, x.Text) >= 0) {
			return true
		}
	}
	return false
}

// slowHidden tells for each sample whether a level does not see it.
func slowHidden(v api.Veil, level int, a api.Activity) []bool {
	hidden := make([]bool, len(a.Samples))
	for i, s := range a.Samples {
		hidden[i] = slowAll(v, level, a)
		for _, x := range v.Rules {
			second := a.Start + s.At
			for second >= 86400 {
				second -= 86400
			}
			isNear := (s.X-x.X)*(s.X-x.X)+(s.Y-x.Y)*(s.Y-x.Y) <= x.R*x.R
			isThen := x.Hours.From <= second && second <= x.Hours.To
			if level >= x.From && (x.Kind == api.VeilPlace && isNear || x.Kind == api.VeilHours && isThen) {
				hidden[i] = true
			}
		}
	}
	return hidden
}

// slowSee makes the pieces one by one, from each sample that is not hidden and has none in the minute ahead of it.
func slowSee(v api.Veil, level int, a api.Activity) (pieces []api.Activity) {
	hidden := slowHidden(v, level, a)
	before := -1000
	for i, s := range a.Samples {
		if hidden[i] {
			continue
		}
		if s.At-before > 60 {
			pieces = append(pieces, slowPiece(v, level, a, hidden, i))
		}
		before = s.At
	}
	return pieces
}

// slowPiece makes the piece that begins with a sample.
func slowPiece(v api.Veil, level int, a api.Activity, hidden []bool, first int) api.Activity {
	begin := a.Samples[first].At
	p := api.Activity{Sport: a.Sport, Name: a.Name, Start: a.Start + begin, Tags: slices.Clone(a.Tags)}
	before := begin
	isEnd := map[int]bool{}
	for i := first; i < len(a.Samples) && a.Samples[i].At-before <= 60; i++ {
		if !hidden[i] {
			before = a.Samples[i].At
			isEnd[before] = true
			s := slowSample(v, level, a.Samples[i])
			s.At -= begin
			p.Samples = append(p.Samples, s)
		}
	}
	isNamed := true
	for _, x := range v.Rules {
		if level >= x.From && x.Kind == api.VeilDay {
			for p.Start%86400 > 0 {
				p.Start--
			}
		}
		isNamed = isNamed && (level < x.From || x.Kind != api.VeilName)
	}
	for _, x := range a.Laps {
		if isEnd[x.From] && isEnd[x.To] {
			p.Laps = append(p.Laps, api.Lap{From: x.From - begin, To: x.To - begin, Name: x.Name})
		}
	}
	if !isNamed {
		p.Name, p.Tags = "activity", nil
		for i := range p.Laps {
			p.Laps[i].Name = ""
		}
	}
	return p
}

func slowSample(v api.Veil, level int, s api.Sample) api.Sample {
	for _, x := range v.Rules {
		if level < x.From {
			continue
		}
		if x.Kind == api.VeilGrid {
			s.X, s.Y = slowFloor(s.X, x.N), slowFloor(s.Y, x.N)
		}
		if x.Kind == api.VeilField {
			*[]*int{1: &s.Pulse, 2: &s.Power, 3: &s.Steps, 4: &s.Z}[x.N] = []int{1: -1, 2: -1, 3: -1, 4: 0}[x.N]
		}
	}
	return s
}

// slowFloor goes down to a multiple.
func slowFloor(x, n int) int {
	for x%n != 0 {
		x--
	}
	return max(x, -100_000_000)
}

// sameAll reports whether two lists have the same activities.
func sameAll(l, m []api.Activity) bool { return slices.EqualFunc(l, m, record.Same) }
