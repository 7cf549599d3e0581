package veil

import (
	"strings"

	"harrier/api"
	"harrier/record"
)

// Check returns what is wrong with a veil.
func Check(v api.Veil) api.Errno {
	if len(v.Rules) > MaxRules {
		return api.ErrSize
	}
	for _, r := range v.Rules {
		if e := checkRule(r); e != api.OK {
			return e
		}
	}
	return api.OK
}

func checkRule(r api.VeilRule) api.Errno {
	if !isKind(r.Kind) {
		return api.ErrKind
	}
	if !within(r.From, 1, MaxLevel) {
		return api.ErrRange
	}
	k := kinds()[r.Kind]
	if k.isRight != nil && !k.isRight(rule(r)) {
		return k.wrong
	}
	if !unusedAreEmpty(r, k.fields) {
		return api.ErrForm
	}
	return api.OK
}

// unusedAreEmpty has the fields that the rule uses.
func unusedAreEmpty(r api.VeilRule, used string) bool {
	for _, field := range []byte("xyrftn") {
		if strings.IndexByte(used, field) < 0 && *numberIn(&r, field) != 0 {
			return false
		}
	}
	return strings.IndexByte(used, 's') >= 0 || r.Text == ""
}

// checkSeen returns what is wrong with a veil, with a level, or with activities.
func checkSeen(v api.Veil, level int, l []api.Activity) api.Errno {
	if e := Check(v); e != api.OK {
		return e
	}
	if !within(level, 0, MaxLevel) {
		return api.ErrRange
	}
	if len(l) > MaxLog {
		return api.ErrSize
	}
	for _, a := range l {
		if e := record.Check(a); e != api.OK {
			return e
		}
	}
	return api.OK
}
