package veil

import (
	"slices"

	"harrier/api"
)

// Covers reports whether the rule a hides all that the rule b hides.
func Covers(a, b api.VeilRule) (bool, api.Errno) {
	if e := Check(api.Veil{Rules: []api.VeilRule{a, b}}); e != api.OK {
		return false, e
	}
	return covers(a, b), api.OK
}

func covers(a, b api.VeilRule) bool {
	if a.From > b.From || a.Kind != b.Kind {
		return false
	}
	covers := kinds()[a.Kind].covers
	return covers != nil && covers(rule(a), rule(b))
}

// isIdle reports whether another rule covers the rule i. Of two that cover each other the first one stays.
func isIdle(l []api.VeilRule, i int) bool {
	for j := range l {
		if j != i && covers(l[j], l[i]) && (j < i || !covers(l[i], l[j])) {
			return true
		}
	}
	return false
}

// Idle returns the numbers of the rules that another one covers.
func Idle(v api.Veil) ([]int, api.Errno) {
	if e := Check(v); e != api.OK {
		return nil, e
	}
	var l []int
	for i := range v.Rules {
		if isIdle(v.Rules, i) {
			l = append(l, i)
		}
	}
	return l, api.OK
}

// Tidy returns the veil without its idle rules.
func Tidy(v api.Veil) (api.Veil, api.Errno) {
	if e := Check(v); e != api.OK {
		return api.Veil{}, e
	}
	var tidy api.Veil
	for i, r := range v.Rules {
		if !isIdle(v.Rules, i) {
			tidy.Rules = append(tidy.Rules, r)
		}
	}
	return tidy, api.OK
}

// Both returns the veil that has the rules of b behind those of a.
func Both(a, b api.Veil) (api.Veil, api.Errno) {
	for _, v := range []api.Veil{a, b} {
		if e := Check(v); e != api.OK {
			return api.Veil{}, e
		}
	}
	if len(a.Rules)+len(b.Rules) > MaxRules {
		return api.Veil{}, api.ErrSize
	}
	return api.Veil{Rules: slices.Concat(a.Rules, b.Rules)}, api.OK
}
