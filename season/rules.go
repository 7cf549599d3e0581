package season

import "harrier/api"

// Keeps reports whether a plan keeps a rule.
func Keeps(s api.Season, r int, plan []int) (bool, api.Errno) {
	if e := checkPlan(s, plan); e != api.OK {
		return false, e
	}
	if !within(r, 0, len(s.Rules)-1) {
		return false, api.ErrNone
	}
	return keeps(s, s.Rules[r], plan), api.OK
}

// Broken returns the numbers of the rules that a plan does not keep.
func Broken(s api.Season, plan []int) ([]int, api.Errno) {
	if e := checkPlan(s, plan); e != api.OK {
		return nil, e
	}
	var l []int
	for i, r := range s.Rules {
		if !keeps(s, r, plan) {
			l = append(l, i)
		}
	}
	return l, api.OK
}

func keeps(s api.Season, r api.Rule, plan []int) bool {
	for day, choice := range plan {
		if !fits(s, r, day, choice) {
			return false
		}
	}
	loads := loadsOf(s, plan)
	for _, x := range bounded(s, r) {
		if sum(loads[x.from:x.to]) > r.N {
			return false
		}
	}
	switch r.Kind {
	case api.RuleLeast:
		return keepsLeast(s, r, loads)
	case api.RuleApart:
		return keepsApart(s, r, plan)
	case api.RuleCount:
		return keepsCount(s, r, plan)
	case api.RuleGrow:
		return keepsGrow(s, r, loads)
	}
	return true
}

// fits reports whether a rule that looks at each day alone permits a choice on a day. The others permit all.
func fits(s api.Season, r api.Rule, day, choice int) bool {
	weekday := (s.First + day) % weekLong
	switch r.Kind {
	case api.RuleOff:
		return weekday != r.Day || choice < 0
	case api.RuleMinutes:
		return weekday != r.Day || sessionOf(s, choice).Minutes <= r.N
	case api.RuleFixed:
		return day != r.Day || sessionOf(s, choice).Name == r.Name
	}
	return true
}

// bounded returns the stretches that have at most N load together by a rule, whatever is done elsewhere.
func bounded(s api.Season, r api.Rule) []stretch {
	switch r.Kind {
	case api.RuleMost:
		return weeksOf(s)
	case api.RuleTaper:
		return []stretch{{max(r.Day-r.Low, 0), r.Day}}
	}
	return nil
}

func keepsLeast(s api.Season, r api.Rule, loads []int) bool {
	for _, x := range weeksOf(s) {
		if x.isWeek() && sum(loads[x.from:x.to]) < r.N {
			return false
		}
	}
	return true
}

func keepsApart(s api.Season, r api.Rule, plan []int) bool {
	last := -r.N // so that the first hard one is not too early
	for day, choice := range plan {
		if !sessionOf(s, choice).Hard {
			continue
		}
		if day-last < r.N {
			return false
		}
		last = day
	}
	return true
}

func keepsCount(s api.Season, r api.Rule, plan []int) bool {
	for _, x := range weeksOf(s) {
		many := 0
		for _, choice := range plan[x.from:x.to] {
			if sessionOf(s, choice).Name == r.Name {
				many++
			}
		}
		if many > r.High || x.isWeek() && many < r.Low {
			return false
		}
	}
	return true
}

func keepsGrow(s api.Season, r api.Rule, loads []int) bool {
	before := s.Before
	for _, x := range weeksOf(s) {
		load := sum(loads[x.from:x.to])
		if 100*load > r.N*before {
			return false
		}
		before = load
	}
	return true
}
