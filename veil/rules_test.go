package veil_test

import (
	"math"
	"math/rand"
	"slices"
	"testing"

	"harrier/api"
	"harrier/veil"
)

func TestJ5Covers(t *testing.T) {
	for _, c := range []struct {
		a, b api.VeilRule
		want bool
	}{
		{place(1, 0, 0, 10), place(1, 3, 4, 5), true}, {place(1, 0, 0, 10), place(1, 3, 4, 6), false}, {place(1, 0, 0, 10), place(1, -4, -3, 5), true},
		{place(1, 0, 0, 10), place(1, 0, 0, 10), true}, {place(1, 0, 0, 10), place(1, 0, 0, 11), false}, {place(1, 3, 4, 5), place(1, 0, 0, 10), false},
		{place(1, 0, 0, 5), place(1, 30, 40, 55), false}, {place(1, 0, 0, 0), place(1, 0, 0, 0), true}, {place(1, 0, 0, 0), place(1, 1, 0, 0), false}, {place(1, 0, 0, 5), place(1, 3, 4, 0), true},
		{place(1, api.MaxPlace, api.MaxPlace, 1_000_000), place(3, api.MaxPlace-600_000, api.MaxPlace-800_000, 0), true}, {place(1, -api.MaxPlace, -api.MaxPlace, 1_000_000), place(1, api.MaxPlace, api.MaxPlace, 0), false},
		{hours(1, 5, 10), hours(1, 5, 10), true}, {hours(1, 5, 10), hours(2, 6, 9), true}, {hours(1, 5, 10), hours(1, 4, 9), false}, {hours(1, 5, 10), hours(1, 6, 11), false}, {hours(1, 6, 9), hours(1, 5, 10), false}, {hours(1, 0, 86399), hours(1, 86399, 86399), true},
		{field(1, 1), field(1, 1), true}, {field(1, 1), field(1, 2), false}, {tag(1, "a"), tag(1, "a"), true}, {tag(1, "a"), tag(1, "b"), false}, {tag(1, "a"), tag(1, "A"), false},
		{sport(1, 1), sport(1, 1), true}, {sport(1, 1), sport(1, 2), false}, {day(1), day(1), true}, {name(1), name(1), true},
		{grid(1, 5), grid(1, 5), false}, {grid(1, 5), grid(1, 10), false}, {grid(1, 10), grid(1, 5), false}, {grid(1, 1), grid(1, 1), false},
		{field(1, 1), sport(1, 1), false}, {sport(1, 1), field(1, 1), false}, {day(1), name(1), false}, {name(1), day(1), false}, {place(1, 0, 0, 100), grid(1, 1), false}, {place(1, 0, 0, 5), hours(1, 0, 0), false}, {sport(1, 1), grid(1, 1), false}, {name(1), tag(1, "a"), false}, {sport(1, 1), place(1, 0, 0, 0), false},
	} {
		want(t, told(c.a, c.b), told(veil.Covers(c.a, c.b)), told(c.want, 0))
		a, b := c.a, c.b
		a.From, b.From = 2, 3
		want(t, told(a, b), told(veil.Covers(a, b)), told(c.want, 0))
		a.From, b.From = 3, 2
		want(t, told(a, b), told(veil.Covers(a, b)), "false 0")
	}
}

func TestJ5CoversErrors(t *testing.T) {
	for _, c := range []struct {
		a, b api.VeilRule
		e    api.Errno
	}{
		{api.VeilRule{}, day(0), api.ErrKind}, {day(0), api.VeilRule{}, api.ErrRange}, {day(1), api.VeilRule{}, api.ErrKind}, {day(1), day(4), api.ErrRange},
		{tag(1, ""), sport(1, 0), api.ErrName}, {sport(1, 0), tag(1, ""), api.ErrKind}, {tag(1, "a"), tag(1, " "), api.ErrName},
		{api.VeilRule{From: 1, Kind: api.VeilDay, N: 1}, day(1), api.ErrForm}, {day(1), api.VeilRule{From: 1, Kind: api.VeilDay, Text: "a"}, api.ErrForm},
		{place(1, least, least, greatest), place(1, greatest, greatest, least), api.ErrRange},
	} {
		want(t, told(c.a, c.b), told(veil.Covers(c.a, c.b)), told(false, c.e))
	}
}

// slowCovers tells it by the words of the document; of places by their distance.
func slowCovers(a, b api.VeilRule) bool {
	if a.From > b.From || a.Kind != b.Kind {
		return false
	}
	switch a.Kind {
	case api.VeilPlace:
		return math.Hypot(float64(a.X-b.X), float64(a.Y-b.Y))+float64(b.R) <= float64(a.R)+0.000001
	case api.VeilHours:
		for second := b.Hours.From; second <= b.Hours.To; second++ {
			if second < a.Hours.From || second > a.Hours.To {
				return false
			}
		}
		return true
	case api.VeilField, api.VeilTag, api.VeilSport:
		return a.N == b.N && a.Text == b.Text
	}
	return a.Kind != api.VeilGrid
}

// slowIdle looks for each rule at all others.
func slowIdle(l []api.VeilRule) (numbers []int) {
	for i, b := range l {
		isIdle := false
		for j, a := range l {
			if i == j || !slowCovers(a, b) {
				continue
			}
			if !slowCovers(b, a) || i > j {
				isIdle = true
			}
		}
		if isIdle {
			numbers = append(numbers, i)
		}
	}
	return numbers
}

func TestJ5Idle(t *testing.T) {
	for _, c := range []struct {
		what string
		l    []api.VeilRule
		want string
	}{
		{"no rules", nil, "[] 0"},
		{"the same three times", []api.VeilRule{day(1), day(1), day(1)}, "[1 2] 0"},
		{"ahead and behind", []api.VeilRule{day(2), day(3), day(1), day(2)}, "[0 1 3] 0"},
		{"a row of them", []api.VeilRule{hours(1, 3, 4), hours(1, 2, 5), hours(1, 1, 6), hours(1, 5, 6)}, "[0 1 3] 0"},
		{"grids stay", []api.VeilRule{grid(1, 5), grid(1, 5), grid(2, 5)}, "[] 0"},
		{"two together cover another one", []api.VeilRule{hours(1, 0, 5), hours(1, 3, 8), hours(1, 6, 10)}, "[] 0"},
		{"places", []api.VeilRule{place(2, 3, 4, 5), place(1, 0, 0, 10), place(1, 0, 0, 11), place(3, 0, 0, 12)}, "[0 1] 0"},
		{"others lie between", []api.VeilRule{tag(1, "a"), sport(1, 1), field(1, 1), tag(1, "b"), field(2, 1), tag(1, "a"), sport(1, 2)}, "[4 5] 0"},
	} {
		want(t, c.what, told(veil.Idle(veilOf(c.l...))), c.want)
	}
}

// TestJ5Words holds Covers and Idle to the words of the document, and Tidy to Idle.
func TestJ5Words(t *testing.T) {
	r := rand.New(rand.NewSource(109))
	idle := 0
	for range 10000 {
		v := randomVeil(r, 12)
		for _, a := range v.Rules {
			for _, b := range v.Rules {
				want(t, told(a, b), told(veil.Covers(a, b)), told(slowCovers(a, b), 0))
			}
		}
		wanted := slowIdle(v.Rules)
		idle += len(wanted)
		want(t, told(v), told(veil.Idle(v)), told(wanted, 0))
		var tidy api.Veil
		for i, x := range v.Rules {
			if !slices.Contains(wanted, i) {
				tidy.Rules = append(tidy.Rules, x)
			}
		}
		want(t, told(v), told(veil.Tidy(v)), told(tidy, 0))
		want(t, told(v)+" once more", told(veil.Tidy(tidy)), told(tidy, 0))
	}
	if idle < 1000 {
		t.Error("not often: ", idle)
	}
}

// TestJ5Same asks whether all levels see the same by a veil that was tidied.
func TestJ5Same(t *testing.T) {
	r := rand.New(rand.NewSource(110))
	for range 3000 {
		v, a := randomVeil(r, 15), randomActivity(r)
		tidy, _ := veil.Tidy(v)
		for level := 0; level <= veil.MaxLevel; level++ {
			want(t, told(v, level, a), told(veil.See(tidy, level, a)), told(veil.See(v, level, a)))
			want(t, told(v, level, a), hiddenBy(tidy, level, a), hiddenBy(v, level, a))
		}
	}
}

func TestJ5Both(t *testing.T) {
	a, b := veilOf(day(1), grid(1, 5)), veilOf(grid(1, 7), day(1))
	want(t, "both", told(veil.Both(a, b)), told(veilOf(day(1), grid(1, 5), grid(1, 7), day(1)), 0))
	want(t, "the other way", told(veil.Both(b, a)), told(veilOf(grid(1, 7), day(1), day(1), grid(1, 5)), 0))
	want(t, "none", told(veil.Both(api.Veil{}, api.Veil{})), "{[]} 0")
	want(t, "one", told(veil.Both(api.Veil{}, a)), told(a, 0))
	many := veilOf(slices.Repeat([]api.VeilRule{name(2)}, veil.MaxRules-2)...)
	l, e := veil.Both(many, a)
	want(t, "as many as can be", told(len(l.Rules), l.Rules[49].N, e), "50 5 0")
	many.Rules = append(many.Rules, name(3))
	want(t, "one more", told(veil.Both(many, a)), "{[]} 3")
	want(t, "one more, the other way", told(veil.Both(a, many)), "{[]} 3")
	b.Rules[1].From = 0
	want(t, "a wrong one", told(veil.Both(many, b)), "{[]} 9")
	b.Rules[0].Kind = 0
	want(t, "wrong from the first rule on", told(veil.Both(many, b)), "{[]} 7")
	many.Rules[3].N = 1
	want(t, "both are wrong", told(veil.Both(many, b)), "{[]} 2")
	many.Rules = append(many.Rules, a.Rules...)
	want(t, "both are wrong, the first one is too long", told(veil.Both(many, b)), "{[]} 3")
	want(t, "both are wrong, the second one is too long", told(veil.Both(b, many)), "{[]} 7")
}
