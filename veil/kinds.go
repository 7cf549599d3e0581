package veil

import (
	"slices"

	"harrier/api"
	"harrier/quant"
)

// A rule is one of a veil. Most of its methods are for rules of one kind.
type rule api.VeilRule

// A kind has what rules of a kind have, and what they do; what they do not do is nil.
type kind struct {
	word     string // in texts; that of VeilField is the one of the field
	fields   string // that they use besides From: the first letters of their names, with `f` and `t` for Hours and `s` for Text
	isRight  func(rule) bool
	wrong    api.Errno // if it is not right
	covers   func(rule, rule) bool
	hidesAll func(rule, api.Activity) bool
	hides    func(r rule, s api.Sample, start int) bool
	change   func(rule, *api.Activity) // a piece
}

// kinds has the kinds by their numbers.
func kinds() [api.VeilGrid + 1]kind {
	return [...]kind{
		api.VeilPlace: {word: "place", fields: "xyr", isRight: rule.hasPlace, wrong: api.ErrRange, covers: rule.coversPlace, hides: rule.hidesPlace},
		api.VeilHours: {word: "hours", fields: "ft", isRight: rule.hasHours, wrong: api.ErrRange, covers: rule.coversHours, hides: rule.hidesHours},
		api.VeilField: {fields: "n", isRight: rule.hasField, wrong: api.ErrRange, covers: rule.isLike, change: rule.takeField},
		api.VeilTag:   {word: "tag", fields: "s", isRight: rule.hasTag, wrong: api.ErrName, covers: rule.isLike, hidesAll: rule.hidesTag},
		api.VeilSport: {word: "sport", fields: "n", isRight: rule.hasSport, wrong: api.ErrKind, covers: rule.isLike, hidesAll: rule.hidesSport},
		api.VeilDay:   {word: "day", covers: rule.isLike, change: rule.takeHour},
		api.VeilName:  {word: "name", covers: rule.isLike, change: rule.takeNames},
		api.VeilGrid:  {word: "grid", fields: "n", isRight: rule.hasGrid, wrong: api.ErrRange, change: rule.roundPlaces},
	}
}

func isKind(n int) bool { return within(n, api.VeilPlace, api.VeilGrid) }

// numberIn returns where a rule has one of the fields that are numbers.
func numberIn(r *api.VeilRule, field byte) *int {
	switch field {
	case 'x':
		return &r.X
	case 'y':
		return &r.Y
	case 'r':
		return &r.R
	case 'f':
		return &r.Hours.From
	case 't':
		return &r.Hours.To
	}
	return &r.N
}

func (r rule) hasPlace() bool {
	return within(r.X, -api.MaxPlace, api.MaxPlace) && within(r.Y, -api.MaxPlace, api.MaxPlace) && within(r.R, 0, maxReach)
}

func (r rule) hasHours() bool {
	return 0 <= r.Hours.From && r.Hours.From <= r.Hours.To && r.Hours.To < api.DayLong
}

func (r rule) hasField() bool { return within(r.N, api.FieldPulse, api.FieldHeight) }

func (r rule) hasTag() bool { return quant.IsName(r.Text) }

func (r rule) hasSport() bool { return within(r.N, api.Run, api.Ski) }

func (r rule) hasGrid() bool { return within(r.N, 1, maxReach) }

// isNear reports whether a place is at most so far away from that of the rule.
func (r rule) isNear(x, y, far int) bool {
	x, y = x-r.X, y-r.Y
	return x*x+y*y <= far*far
}

func (r rule) hidesPlace(s api.Sample, _ int) bool { return r.isNear(s.X, s.Y, r.R) }

func (r rule) hidesHours(s api.Sample, start int) bool {
	return within((start+s.At)%api.DayLong, r.Hours.From, r.Hours.To)
}

func (r rule) hidesTag(a api.Activity) bool { return slices.Contains(a.Tags, r.Text) }

func (r rule) hidesSport(a api.Activity) bool { return a.Sport == r.N }

func (r rule) takeField(p *api.Activity) {
	for i := range p.Samples {
		s := &p.Samples[i]
		switch r.N {
		case api.FieldPulse:
			s.Pulse = -1
		case api.FieldPower:
			s.Power = -1
		case api.FieldSteps:
			s.Steps = -1
		case api.FieldHeight:
			s.Z = 0
		}
	}
}

func (r rule) takeHour(p *api.Activity) { p.Start -= p.Start % api.DayLong }

func (r rule) takeNames(p *api.Activity) {
	p.Name, p.Tags = "activity", nil
	for i := range p.Laps {
		p.Laps[i].Name = ""
	}
}

func (r rule) roundPlaces(p *api.Activity) {
	for i := range p.Samples {
		s := &p.Samples[i]
		s.X, s.Y = r.rounded(s.X), r.rounded(s.Y)
	}
}

// rounded returns n rounded down to a multiple of the grid. Below the plane it is the edge of it.
func (r rule) rounded(n int) int {
	whole, _ := quant.Div(n, r.N, quant.Down)
	return max(whole*r.N, -api.MaxPlace)
}

func (r rule) coversPlace(b rule) bool { return r.R >= b.R && r.isNear(b.X, b.Y, r.R-b.R) }

func (r rule) coversHours(b rule) bool {
	return r.Hours.From <= b.Hours.From && b.Hours.To <= r.Hours.To
}

// isLike reports whether all that rules without a place and hours use is the same.
func (r rule) isLike(b rule) bool { return r.N == b.N && r.Text == b.Text }
