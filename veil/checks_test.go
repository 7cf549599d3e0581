package veil_test

import (
	"slices"
	"strings"
	"testing"

	"harrier/api"
	"harrier/veil"
)

const (
	least    = -1 << 63
	greatest = 1<<63 - 1
)

func TestJ1Right(t *testing.T) {
	for _, r := range []api.VeilRule{
		place(1, 0, 0, 0), place(2, -api.MaxPlace, api.MaxPlace, 1_000_000), place(3, api.MaxPlace, -api.MaxPlace, 1),
		hours(1, 0, 0), hours(2, 0, 86399), hours(3, 86399, 86399), hours(1, 5, 6),
		field(1, api.FieldPulse), field(2, api.FieldPower), field(3, api.FieldSteps), field(1, api.FieldHeight),
		tag(1, "a"), tag(2, "-_.9Z"), tag(3, strings.Repeat("x", api.MaxName)),
		sport(1, api.Run), sport(2, api.Ride), sport(3, api.Swim), sport(1, api.Walk), sport(2, api.Ski),
		day(1), day(2), day(3), name(1), name(2), name(3), grid(1, 1), grid(2, 1_000_000), grid(3, 17),
	} {
		want(t, told(r), told(veil.Check(veilOf(r))), "0")
	}
	want(t, "no rules", told(veil.Check(api.Veil{})), "0")
}

func TestJ1Wrong(t *testing.T) {
	for _, c := range []struct {
		e api.Errno
		l []api.VeilRule
	}{
		{api.ErrKind, []api.VeilRule{{}, {From: 1}, {From: 1, Kind: 9}, {From: 1, Kind: -1}, {From: 9, Kind: least}, {From: 0, Kind: greatest}}},
		{api.ErrRange, []api.VeilRule{day(0), day(-1), day(4), day(least), day(greatest), name(0), tag(0, ""), sport(4, 0), grid(0, 0)}},
		{api.ErrRange, []api.VeilRule{place(1, api.MaxPlace+1, 0, 0), place(1, -api.MaxPlace-1, 0, 0), place(1, least, 0, 0), place(1, greatest, 0, 0)}},
		{api.ErrRange, []api.VeilRule{place(1, 0, api.MaxPlace+1, 0), place(1, 0, -api.MaxPlace-1, 0), place(1, 0, least, 0), place(1, 0, greatest, 0)}},
		{api.ErrRange, []api.VeilRule{place(1, 0, 0, -1), place(1, 0, 0, 1_000_001), place(1, 0, 0, least), place(1, 0, 0, greatest)}},
		{api.ErrRange, []api.VeilRule{hours(1, -1, 0), hours(1, 6, 5), hours(1, 0, 86400), hours(1, least, greatest), hours(1, 0, -1), hours(1, 86400, 86400)}},
		{api.ErrRange, []api.VeilRule{field(1, 0), field(1, 5), field(1, -1), field(1, greatest), grid(1, 0), grid(1, -5), grid(1, 1_000_001), grid(1, least)}},
		{api.ErrKind, []api.VeilRule{sport(1, 0), sport(1, 6), sport(1, -1), sport(1, least), sport(1, greatest)}},
		{api.ErrName, []api.VeilRule{tag(1, ""), tag(1, "a b"), tag(1, "ü"), tag(1, "a\n"), tag(1, strings.Repeat("x", api.MaxName+1)), tag(1, "\xff")}},
	} {
		for _, r := range c.l {
			want(t, told(r), told(veil.Check(veilOf(r))), told(c.e))
			want(t, told(r)+" behind another", told(veil.Check(veilOf(day(1), r, api.VeilRule{}))), told(c.e))
		}
	}
}

// usedBy has the fields that kinds use besides From.
var usedBy = map[int]string{api.VeilPlace: "X Y R", api.VeilHours: "From To", api.VeilField: "N", api.VeilTag: "Text", api.VeilSport: "N", api.VeilDay: "", api.VeilName: "", api.VeilGrid: "N"}

// TestJ1Unused fills the fields that are not used, one by one; also of rules that have another error.
func TestJ1Unused(t *testing.T) {
	fills := map[string]func(*api.VeilRule){
		"X":    func(r *api.VeilRule) { r.X = 1 },
		"Y":    func(r *api.VeilRule) { r.Y = -1 },
		"R":    func(r *api.VeilRule) { r.R = greatest },
		"From": func(r *api.VeilRule) { r.Hours.From = 1 },
		"To":   func(r *api.VeilRule) { r.Hours.To = least },
		"N":    func(r *api.VeilRule) { r.N = 1 },
		"Text": func(r *api.VeilRule) { r.Text = "a" },
	}
	for _, r := range []api.VeilRule{place(1, 2, 3, 4), hours(1, 2, 3), field(1, 2), tag(1, "a"), sport(1, 2), day(1), name(1), grid(1, 2)} {
		for what, fill := range fills {
			if slices.Contains(strings.Fields(usedBy[r.Kind]), what) {
				continue
			}
			filled := r
			fill(&filled)
			want(t, told(filled), told(veil.Check(veilOf(r, filled))), "2")
			filled.From = 0
			want(t, told(filled), told(veil.Check(veilOf(filled))), "9")
		}
	}
	for _, c := range []struct {
		r api.VeilRule
		e api.Errno
	}{{place(1, 0, 0, -1), api.ErrRange}, {hours(1, 2, 1), api.ErrRange}, {field(1, 5), api.ErrRange}, {tag(1, ""), api.ErrName}, {sport(1, 6), api.ErrKind}, {grid(1, 0), api.ErrRange}} {
		for what, fill := range fills {
			if !slices.Contains(strings.Fields(usedBy[c.r.Kind]), what) {
				fill(&c.r)
			}
		}
		want(t, told(c.r), told(veil.Check(veilOf(c.r))), told(c.e))
	}
}

func TestJ1Size(t *testing.T) {
	l := slices.Repeat([]api.VeilRule{day(1)}, veil.MaxRules)
	want(t, "as many as can be", told(veil.Check(veilOf(l...))), "0")
	want(t, "one more", told(veil.Check(veilOf(append(l, day(1))...))), "3")
	want(t, "one more, all wrong", told(veil.Check(veilOf(make([]api.VeilRule, veil.MaxRules+1)...))), "3")
}
