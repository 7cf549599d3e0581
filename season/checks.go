package season

import (
	"slices"
	"strings"

	"harrier/api"
	"harrier/quant"
)

// Check returns what is wrong with a season.
func Check(s api.Season) api.Errno {
	if !within(s.First, 0, api.MaxDay-MaxDays) || !within(s.Days, 1, MaxDays) || !within(s.Before, 0, maxNumber) {
		return api.ErrRange
	}
	if len(s.Sessions) > MaxSessions || len(s.Rules) > MaxRules {
		return api.ErrSize
	}
	for i, x := range s.Sessions {
		if e := checkSession(x, s.Sessions[:i]); e != api.OK {
			return e
		}
	}
	for _, r := range s.Rules {
		if e := checkRule(s, r); e != api.OK {
			return e
		}
	}
	return api.OK
}

func checkSession(x api.Session, before []api.Session) api.Errno {
	if !quant.IsName(x.Name) {
		return api.ErrName
	}
	if hasName(before, x.Name) {
		return api.ErrTwice
	}
	if !within(x.Load, 0, maxSession) || !within(x.Minutes, 0, maxSession) || !within(x.Worth, 0, maxSession) {
		return api.ErrRange
	}
	return api.OK
}

func hasName(l []api.Session, name string) bool {
	return slices.ContainsFunc(l, func(x api.Session) bool { return x.Name == name })
}

// checkRule has a season whose days and sessions are right.
func checkRule(s api.Season, r api.Rule) api.Errno {
	if !isKind(r.Kind) {
		return api.ErrKind
	}
	if !rangesHold(r, s.Days) {
		return api.ErrRange
	}
	canLack := r.Kind == api.RuleFixed && r.Name == ""
	if uses(r.Kind, 's') && !canLack && !hasName(s.Sessions, r.Name) {
		return api.ErrNone
	}
	if !unusedAreEmpty(r) {
		return api.ErrForm
	}
	return api.OK
}

func uses(kind int, field byte) bool { return strings.IndexByte(kinds[kind].fields, field) >= 0 }

// rangesHold reports whether the numbers that the kind of a rule uses are in their ranges.
func rangesHold(r api.Rule, days int) bool {
	switch r.Kind {
	case api.RuleOff:
		return within(r.Day, 0, weekLong-1)
	case api.RuleMinutes:
		return within(r.Day, 0, weekLong-1) && within(r.N, 0, maxNumber)
	case api.RuleApart:
		return within(r.N, 1, MaxDays)
	case api.RuleCount:
		return 0 <= r.Low && r.Low <= r.High && r.High <= weekLong
	case api.RuleFixed:
		return within(r.Day, 0, days-1)
	case api.RuleTaper:
		return within(r.Day, 0, days-1) && within(r.N, 0, maxNumber) && within(r.Low, 1, MaxDays)
	}
	return within(r.N, 0, maxNumber)
}

func unusedAreEmpty(r api.Rule) bool {
	for _, field := range []byte("dnlh") {
		if !uses(r.Kind, field) && *numberIn(&r, field) != 0 {
			return false
		}
	}
	return uses(r.Kind, 's') || r.Name == ""
}

// checkPlan asks the season first.
func checkPlan(s api.Season, plan []int) api.Errno {
	if e := Check(s); e != api.OK {
		return e
	}
	if len(plan) != s.Days || !areChoices(s, plan) {
		return api.ErrForm
	}
	return api.OK
}

// checkDone asks the season first.
func checkDone(s api.Season, done []int) api.Errno {
	if e := Check(s); e != api.OK {
		return e
	}
	if len(done) > s.Days || !areChoices(s, done) {
		return api.ErrForm
	}
	return api.OK
}

// areChoices reports whether numbers are those of sessions, or -1.
func areChoices(s api.Season, l []int) bool {
	return !slices.ContainsFunc(l, func(n int) bool { return !within(n, -1, len(s.Sessions)-1) })
}
