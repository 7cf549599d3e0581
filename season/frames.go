package season

import (
	"slices"

	"harrier/api"
)

// unbounded is more load than a season can have.
const unbounded = MaxDays*maxSession + 1

// A frame is what all rules of a season ask together, day by day.
type frame struct {
	days      int
	sessions  []api.Session             // behind nothing, which is the first one
	choices   [MaxDays][]int            // what can be done on each day, rising
	tops      [MaxDays + 1]int16        // the most load of all days ahead of each day
	bounds    [MaxDays][]bound          // that begin on each day
	least     int16                     // load of a week of seven days
	low, high [MaxSessions]int16        // how often each session is done in a week
	apart     int16                     // days between hard sessions
	grow      int                       // percent of the week before; below 0: no rule asks for it
	matters   [MaxDays / weekLong]int16 // the most load of each week that makes a difference to the next one
}

// A bound says that the days up to the last one have at most this load together.
type bound struct {
	last int
	most int16
}

// newFrame has a season that is right, and the beginning of its plans.
func newFrame(s api.Season, done []int) *frame {
	f := &frame{days: s.Days, sessions: slices.Concat([]api.Session{{}}, s.Sessions), apart: 1, grow: -1}
	for k := range f.high {
		f.high[k] = weekLong
	}
	for _, r := range s.Rules {
		f.add(s, r)
	}
	f.setChoices(s, done)
	f.setGrow(s)
	return f
}

// add adds what a rule asks of more than one day.
func (f *frame) add(s api.Season, r api.Rule) {
	for _, x := range bounded(s, r) {
		f.addBound(x, r.N)
	}
	switch r.Kind {
	case api.RuleLeast:
		f.least = max(f.least, clamped(r.N))
	case api.RuleApart:
		f.apart = max(f.apart, int16(r.N))
	case api.RuleCount:
		k := slices.IndexFunc(s.Sessions, func(x api.Session) bool { return x.Name == r.Name })
		f.low[k], f.high[k] = max(f.low[k], int16(r.Low)), min(f.high[k], int16(r.High))
	case api.RuleGrow:
		if f.grow < 0 || r.N < f.grow {
			f.grow = r.N
		}
	}
}

// clamped returns a load as a state has it.
func clamped(load int) int16 { return int16(min(load, unbounded)) }

func (f *frame) addBound(x stretch, most int) {
	if x.from < x.to {
		f.bounds[x.from] = append(f.bounds[x.from], bound{x.to - 1, clamped(most)})
	}
}

// setChoices lays down what the rules for single days permit.
func (f *frame) setChoices(s api.Season, done []int) {
	for day := range f.days {
		top := 0
		for choice := -1; choice < len(s.Sessions); choice++ {
			misfits := func(r api.Rule) bool { return !fits(s, r, day, choice) }
			if day < len(done) && done[day] != choice || slices.ContainsFunc(s.Rules, misfits) {
				continue
			}
			f.choices[day] = append(f.choices[day], choice)
			top = max(top, sessionOf(s, choice).Load)
		}
		f.tops[day+1] = f.tops[day] + int16(top)
	}
}

// setGrow bounds the first week, and says how much load of a week matters to the next one: no more than lets that one have all that it can.
func (f *frame) setGrow(s api.Season) {
	if f.grow < 0 {
		return
	}
	weeks := weeksOf(s)
	f.addBound(weeks[0], f.grow*s.Before/100)
	for i, x := range weeks[1:] {
		if f.grow > 0 {
			top := int(f.top(x.from, x.to))
			f.matters[i] = clamped((100*top + f.grow - 1) / f.grow)
		}
	}
}

// top returns the most load of the days from from on, before to.
func (f *frame) top(from, to int) int16 { return f.tops[to] - f.tops[from] }

// weekEnd returns the day behind the week of a day.
func (f *frame) weekEnd(day int) int { return min(day-day%weekLong+weekLong, f.days) }
