package season_test

import (
	"fmt"
	"math"
	"math/rand"
	"regexp"
	"slices"
	"strings"
	"testing"

	"harrier/api"
	"harrier/season"
)

var nameForm = regexp.MustCompile(`^[a-zA-Z0-9_.-]{1,60}$`)

// asked is something that is asked of a season.
type asked struct {
	wrong bool
	e     api.Errno
}

func outside(n, low, high int) bool { return n < low || n > high }

func isOneOf(n int, l ...int) bool { return slices.Contains(l, n) }

// askedOf follows the words of the document.
func askedOf(s api.Season) []asked {
	l := []asked{
		{outside(s.First, 0, 999999-14), api.ErrRange},
		{outside(s.Days, 1, 14), api.ErrRange},
		{outside(s.Before, 0, 100000), api.ErrRange},
		{len(s.Sessions) > 4, api.ErrSize},
		{len(s.Rules) > 12, api.ErrSize},
	}
	var names []string
	for _, x := range s.Sessions {
		l = append(l,
			asked{!nameForm.MatchString(x.Name), api.ErrName},
			asked{slices.Contains(names, x.Name), api.ErrTwice},
			asked{outside(x.Load, 0, 1000) || outside(x.Minutes, 0, 1000) || outside(x.Worth, 0, 1000), api.ErrRange})
		names = append(names, x.Name)
	}
	for _, r := range s.Rules {
		byWeekday, byDay := isOneOf(r.Kind, 1, 2), isOneOf(r.Kind, 8, 9)
		byNumber := isOneOf(r.Kind, 2, 3, 4, 7, 9)
		named := isOneOf(r.Kind, 6, 8)
		l = append(l,
			asked{outside(r.Kind, 1, 9), api.ErrKind},
			asked{byWeekday && outside(r.Day, 0, 6), api.ErrRange},
			asked{byDay && outside(r.Day, 0, s.Days-1), api.ErrRange},
			asked{byNumber && outside(r.N, 0, 100000), api.ErrRange},
			asked{r.Kind == 5 && outside(r.N, 1, 14), api.ErrRange},
			asked{r.Kind == 6 && (r.Low < 0 || r.High < r.Low || r.High > 7), api.ErrRange},
			asked{r.Kind == 9 && outside(r.Low, 1, 14), api.ErrRange},
			asked{named && !slices.Contains(names, r.Name) && (r.Kind == 6 || r.Name != ""), api.ErrNone},
			asked{!byWeekday && !byDay && r.Day != 0, api.ErrForm},
			asked{!byNumber && r.Kind != 5 && r.N != 0, api.ErrForm},
			asked{!isOneOf(r.Kind, 6, 9) && r.Low != 0, api.ErrForm},
			asked{r.Kind != 6 && r.High != 0, api.ErrForm},
			asked{!named && r.Name != "", api.ErrForm})
	}
	return l
}

func slowCheck(s api.Season) api.Errno {
	for _, x := range askedOf(s) {
		if x.wrong {
			return x.e
		}
	}
	return api.OK
}

// spoil changes something of a season.
func spoil(r *rand.Rand, s *api.Season) {
	n := []int{-1, 0, 1, 6, 7, 8, 13, 14, 15, 1000, 1001, 100000, 100001, 999985, 999986, math.MinInt, math.MaxInt}[r.Intn(17)]
	name := []string{"", "a", "a b", "ü", "most", "none", strings.Repeat("x", 60), strings.Repeat("x", 61)}[r.Intn(8)]
	switch r.Intn(8) {
	case 0:
		*[]*int{&s.First, &s.Days, &s.Before}[r.Intn(3)] = n
	case 1:
		s.Rules = append(s.Rules, s.Rules...)
	case 2:
		s.Sessions = append(s.Sessions, easy())
	case 3, 4:
		if len(s.Sessions) > 0 {
			x := &s.Sessions[r.Intn(len(s.Sessions))]
			*[]*int{&x.Load, &x.Minutes, &x.Worth}[r.Intn(3)] = n
			if r.Intn(2) == 0 {
				x.Name = name
			}
		}
	default:
		if len(s.Rules) > 0 {
			x := &s.Rules[r.Intn(len(s.Rules))]
			*[]*int{&x.Kind, &x.Day, &x.N, &x.Low, &x.High}[r.Intn(5)] = n
			if r.Intn(4) == 0 {
				x.Name = name
			}
		}
	}
}

func TestH1CheckWords(t *testing.T) {
	r := rand.New(rand.NewSource(81))
	seen := map[api.Errno]int{}
	for range 60000 {
		s, _ := randomSeason(r, 1+r.Intn(14), r.Intn(5))
		if e := season.Check(s); e != api.OK {
			t.Fatal("a season that is right: ", s, e)
		}
		for range 1 + r.Intn(3) {
			spoil(r, &s)
		}
		e := season.Check(s)
		seen[e]++
		want(t, fmt.Sprint(s), told(e), told(slowCheck(s)))
	}
	for _, e := range []api.Errno{api.OK, api.ErrForm, api.ErrSize, api.ErrNone, api.ErrTwice, api.ErrKind, api.ErrName, api.ErrRange} {
		if seen[e] < 50 {
			t.Error("not often: ", e, seen[e])
		}
	}
}

// TestH1Ranges has numbers just in their ranges and just out of them.
func TestH1Ranges(t *testing.T) {
	session := func(x api.Session) api.Season { return api.Season{Days: 5, Sessions: []api.Session{x}} }
	rule := func(r api.Rule) api.Season { return seasonOf(5, r) }
	for _, c := range []struct {
		what      string
		low, high int
		s         func(n int) api.Season
	}{
		{"First", 0, 999985, func(n int) api.Season { return api.Season{First: n, Days: 1} }},
		{"Days", 1, 14, func(n int) api.Season { return api.Season{Days: n} }},
		{"Before", 0, 100000, func(n int) api.Season { return api.Season{Days: 1, Before: n} }},
		{"Load", 0, 1000, func(n int) api.Season { return session(api.Session{Name: "a", Load: n}) }},
		{"Minutes", 0, 1000, func(n int) api.Season { return session(api.Session{Name: "a", Minutes: n}) }},
		{"Worth", 0, 1000, func(n int) api.Season { return session(api.Session{Name: "a", Worth: n}) }},
		{"off", 0, 6, func(n int) api.Season { return rule(off(n)) }},
		{"minutes", 0, 6, func(n int) api.Season { return rule(minutes(n, 5)) }},
		{"N of minutes", 0, 100000, func(n int) api.Season { return rule(minutes(5, n)) }},
		{"most", 0, 100000, func(n int) api.Season { return rule(most(n)) }},
		{"least", 0, 100000, func(n int) api.Season { return rule(least(n)) }},
		{"apart", 1, 14, func(n int) api.Season { return rule(apart(n)) }},
		{"Low of count", 0, 7, func(n int) api.Season { return rule(count("fast", n, 7)) }},
		{"High of count", 3, 7, func(n int) api.Season { return rule(count("fast", 3, n)) }},
		{"grow", 0, 100000, func(n int) api.Season { return rule(grow(n)) }},
		{"fixed", 0, 4, func(n int) api.Season { return rule(fixed(n, "")) }},
		{"taper", 0, 4, func(n int) api.Season { return rule(taper(n, 1, 0)) }},
		{"Low of taper", 1, 14, func(n int) api.Season { return rule(taper(2, n, 0)) }},
		{"N of taper", 0, 100000, func(n int) api.Season { return rule(taper(2, 1, n)) }},
	} {
		for n, e := range map[int]api.Errno{c.low: 0, c.high: 0, (c.low + c.high) / 2: 0, c.low - 1: 9, c.high + 1: 9, math.MinInt: 9, math.MaxInt: 9} {
			want(t, fmt.Sprint(c.what, " ", n), told(season.Check(c.s(n))), told(e))
		}
	}
}

func TestH1Check(t *testing.T) {
	named := func(l ...string) (s api.Season) {
		s.Days = 1
		for _, name := range l {
			s.Sessions = append(s.Sessions, api.Session{Name: name})
		}
		return s
	}
	ranged := func(s api.Season) api.Season { s.Sessions[0].Load = -1; return s }
	for _, c := range []struct {
		what string
		s    api.Season
		want api.Errno
	}{
		{"a day", api.Season{Days: 1}, api.OK},
		{"nothing", api.Season{}, api.ErrRange},
		{"four sessions", named("a", "b", "c", "d"), api.OK},
		{"five sessions", named("a", "b", "c", "d", "e"), api.ErrSize},
		{"five sessions, the first one without a name", named("", "b", "c", "d", "e"), api.ErrSize},
		{"twelve rules", seasonOf(1, slices.Repeat([]api.Rule{most(1)}, 12)...), api.OK},
		{"thirteen rules", seasonOf(1, slices.Repeat([]api.Rule{most(1)}, 13)...), api.ErrSize},
		{"thirteen rules without a kind, and no days", seasonOf(0, make([]api.Rule, 13)...), api.ErrRange},
		{"no name", named("a", ""), api.ErrName},
		{"a name of 60 bytes", named(strings.Repeat("x", 60)), api.OK},
		{"a name of 61 bytes", named(strings.Repeat("x", 61)), api.ErrName},
		{"two of a name", named("a", "b", "a"), api.ErrTwice},
		{"two of a name, and out of its range", named("a", "a"), api.ErrTwice},
		{"names that differ in case", named("a", "A"), api.OK},
		{"a range ahead of a name", ranged(named("a", "")), api.ErrRange},
		{"a name ahead of a range", ranged(named("")), api.ErrName},
		{"a session ahead of a rule", api.Season{Days: 1, Sessions: []api.Session{{}}, Rules: []api.Rule{{}}}, api.ErrName},
		{"kind 0", seasonOf(1, api.Rule{}), api.ErrKind},
		{"kind 10", seasonOf(1, api.Rule{Kind: 10, Day: -1, Name: "x"}), api.ErrKind},
		{"count of no session", seasonOf(1, count("slow", 0, 1)), api.ErrNone},
		{"count without a name", seasonOf(1, count("", 0, 1)), api.ErrNone},
		{"count out of its range, of no session", seasonOf(1, count("slow", 1, 0)), api.ErrRange},
		{"count of 0", seasonOf(1, count("fast", 0, 0)), api.OK},
		{"fixed of no session", seasonOf(1, fixed(0, "slow")), api.ErrNone},
		{"fixed of no name", seasonOf(1, fixed(0, "a b")), api.ErrNone},
		{"fixed out of its range, of no session", seasonOf(1, fixed(1, "slow")), api.ErrRange},
		{"fixed of nothing", seasonOf(1, fixed(0, "")), api.OK},
		{"no session, and N", seasonOf(1, api.Rule{Kind: api.RuleFixed, Name: "slow", N: 1}), api.ErrNone},
		{"rules in their order", seasonOf(1, off(7), count("slow", 0, 1)), api.ErrRange},
		{"rules in their order, too", seasonOf(1, count("slow", 0, 1), off(7)), api.ErrNone},
	} {
		want(t, c.what, told(season.Check(c.s)), told(c.want))
	}
}

// TestH1UnusedFields gives each kind of rule each field that it does not use.
func TestH1UnusedFields(t *testing.T) {
	fields := map[string]func(r *api.Rule){
		"Day":  func(r *api.Rule) { r.Day = 1 },
		"N":    func(r *api.Rule) { r.N = 1 },
		"Low":  func(r *api.Rule) { r.Low = 1 },
		"High": func(r *api.Rule) { r.High = 1 },
		"Name": func(r *api.Rule) { r.Name = "easy" },
		"less": func(r *api.Rule) { r.High = math.MinInt },
	}
	for _, c := range []struct {
		r    api.Rule
		used string
	}{
		{off(0), "Day"}, {minutes(0, 0), "Day N"}, {most(0), "N"}, {least(0), "N"}, {apart(2), "N"}, {count("easy", 1, 1), "Name Low High"},
		{grow(0), "N"}, {fixed(0, ""), "Day Name"}, {taper(0, 2, 0), "Day Low N"},
	} {
		for field, set := range fields {
			r := c.r
			set(&r)
			e := api.ErrForm
			if slices.Contains(strings.Fields(c.used), field) {
				e = api.OK
			} else if field == "less" && r.Kind == api.RuleCount {
				e = api.ErrRange
			}
			want(t, fmt.Sprint(field, " of ", c.r), told(season.Check(seasonOf(3, r))), told(e))
		}
	}
}

func TestH1Weekday(t *testing.T) {
	for first, l := range map[int]string{0: "0 1 2 3 4 5 6 0", 3: "3 4 5 6 0 1 2 3", 999985: "0 1 2 3 4 5 6 0", 999984: "6 0 1 2 3 4 5 6"} {
		s := seasonOf(8)
		s.First = first
		var got []any
		for i := range 8 {
			n, e := season.Weekday(s, i)
			got = append(got, n)
			want(t, "error", told(e), "0")
		}
		want(t, fmt.Sprint(first), told(got...), l)
	}
	for _, i := range []int{-1, 8, 13, math.MinInt, math.MaxInt} {
		want(t, fmt.Sprint(i), told(season.Weekday(seasonOf(8), i)), "0 9")
	}
}
