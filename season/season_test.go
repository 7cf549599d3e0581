package season_test

import (
	"fmt"
	"math/rand"
	"reflect"
	"slices"
	"strings"
	"testing"

	"harrier/api"
	"harrier/season"
)

// told writes results with spaces between; codes of errors as numbers.
func told(l ...any) string {
	for i, x := range l {
		if e, ok := x.(api.Errno); ok {
			l[i] = int(e)
		}
	}
	return strings.TrimSuffix(fmt.Sprintln(l...), "\n")
}

func want(t *testing.T, what, got, wanted string) {
	t.Helper()
	if got != wanted {
		t.Errorf("%s: got %q, want %q", what, got, wanted)
	}
}

func easy() api.Session { return api.Session{Name: "easy", Load: 40, Minutes: 60, Worth: 3} }

func fast() api.Session {
	return api.Session{Name: "fast", Load: 80, Minutes: 50, Worth: 5, Hard: true}
}

// seasonOf has the sessions easy (0) and fast (1).
func seasonOf(days int, l ...api.Rule) api.Season {
	return api.Season{Days: days, Sessions: []api.Session{easy(), fast()}, Rules: l}
}

func off(day int) api.Rule        { return api.Rule{Kind: api.RuleOff, Day: day} }
func minutes(day, n int) api.Rule { return api.Rule{Kind: api.RuleMinutes, Day: day, N: n} }
func most(n int) api.Rule         { return api.Rule{Kind: api.RuleMost, N: n} }
func least(n int) api.Rule        { return api.Rule{Kind: api.RuleLeast, N: n} }
func apart(n int) api.Rule        { return api.Rule{Kind: api.RuleApart, N: n} }
func grow(n int) api.Rule         { return api.Rule{Kind: api.RuleGrow, N: n} }

func count(name string, low, high int) api.Rule {
	return api.Rule{Kind: api.RuleCount, Name: name, Low: low, High: high}
}

func fixed(day int, name string) api.Rule {
	return api.Rule{Kind: api.RuleFixed, Day: day, Name: name}
}

func taper(day, low, n int) api.Rule {
	return api.Rule{Kind: api.RuleTaper, Day: day, Low: low, N: n}
}

// slowLoad returns the load of the days from from on, before to, as far as the season has them.
func slowLoad(s api.Season, plan []int, from, to int) int {
	load := 0
	for day, n := range plan {
		if from <= day && day < to && n >= 0 {
			load += s.Sessions[n].Load
		}
	}
	return load
}

// slowCount returns how often a session is done on the days from from on, before to.
func slowCount(s api.Season, plan []int, name string, from, to int) int {
	many := 0
	for day, n := range plan {
		if from <= day && day < to && n >= 0 && s.Sessions[n].Name == name {
			many++
		}
	}
	return many
}

// slowKeeps follows the words of the document.
func slowKeeps(s api.Season, r api.Rule, plan []int) bool {
	before := s.Before
	for from := 0; from < s.Days; from += 7 {
		load, isFull := slowLoad(s, plan, from, from+7), from+7 <= s.Days
		many := slowCount(s, plan, r.Name, from, from+7)
		switch {
		case r.Kind == api.RuleMost && load > r.N,
			r.Kind == api.RuleLeast && isFull && load < r.N,
			r.Kind == api.RuleCount && many > r.High,
			r.Kind == api.RuleCount && isFull && many < r.Low,
			r.Kind == api.RuleGrow && load*100 > r.N*before:
			return false
		}
		before = load
	}
	if r.Kind == api.RuleTaper && slowLoad(s, plan, r.Day-r.Low, r.Day) > r.N {
		return false
	}
	for day, n := range plan {
		weekday := (s.First + day) % 7
		name, long := "", 0
		if n >= 0 {
			name, long = s.Sessions[n].Name, s.Sessions[n].Minutes
		}
		switch {
		case r.Kind == api.RuleOff && weekday == r.Day && n != -1,
			r.Kind == api.RuleMinutes && weekday == r.Day && long > r.N,
			r.Kind == api.RuleFixed && day == r.Day && name != r.Name:
			return false
		}
		for next := day + 1; next < s.Days; next++ {
			bothHard := n >= 0 && plan[next] >= 0 && s.Sessions[n].Hard && s.Sessions[plan[next]].Hard
			if r.Kind == api.RuleApart && bothHard && next-day < r.N {
				return false
			}
		}
	}
	return true
}

// slowGrow returns the least percents that a plan keeps, but at most 400.
func slowGrow(s api.Season, plan []int) int {
	n := 0
	for n < 400 && !slowKeeps(s, grow(n), plan) {
		n++
	}
	return n
}

// slowApart returns the most days that a plan keeps.
func slowApart(s api.Season, plan []int) int {
	n := 14
	for n > 1 && !slowKeeps(s, apart(n), plan) {
		n--
	}
	return n
}

func limited(n, low, high int) int { return min(max(n, low), high) }

// ruleNear makes a rule that a plan keeps, but perhaps only just, or fails by a little.
func ruleNear(r *rand.Rand, s api.Season, plan []int) api.Rule {
	by := []int{0, 0, 0, 1, -1, 5}[r.Intn(6)]
	kind := 1 + r.Intn(9)
	if len(s.Sessions) == 0 && kind == api.RuleCount {
		kind = api.RuleFixed
	}
	first, second := slowLoad(s, plan, 0, 7), slowLoad(s, plan, 7, 14)
	switch kind {
	case api.RuleOff:
		return off(r.Intn(7))
	case api.RuleMinutes:
		return minutes(r.Intn(7), []int{0, 10, 50, 51, 60, 100000}[r.Intn(6)])
	case api.RuleMost:
		return most(limited(max(first, second)+by, 0, 100000))
	case api.RuleLeast:
		n := first
		if s.Days == 14 {
			n = min(first, second)
		}
		return least(limited(n-by, 0, 100000))
	case api.RuleApart:
		return apart(limited(slowApart(s, plan)-by, 1, 14))
	case api.RuleCount:
		name := s.Sessions[r.Intn(len(s.Sessions))].Name
		a, b := slowCount(s, plan, name, 0, 7), slowCount(s, plan, name, 7, 14)
		high := limited(max(a, b)+by, 0, 7)
		return count(name, limited(min(a, b)-r.Intn(2), 0, high), high)
	case api.RuleGrow:
		return grow(limited(slowGrow(s, plan)+by, 0, 100000))
	case api.RuleFixed:
		day := r.Intn(s.Days)
		n := plan[day]
		if by < 0 {
			n = r.Intn(len(s.Sessions)+1) - 1
		}
		if n < 0 {
			return fixed(day, "")
		}
		return fixed(day, s.Sessions[n].Name)
	}
	day, low := r.Intn(s.Days), 1+r.Intn(14)
	return taper(day, low, limited(slowLoad(s, plan, day-low, day)+by, 0, 100000))
}

func randomPlan(r *rand.Rand, s api.Season) []int {
	var plan []int
	for range s.Days {
		plan = append(plan, r.Intn(len(s.Sessions)+1)-1)
	}
	return plan
}

// randomSeason makes a season, with rules that one plan keeps, or nearly keeps.
func randomSeason(r *rand.Rand, days, sessions int) (api.Season, []int) {
	s := api.Season{First: r.Intn(100), Days: days, Before: []int{0, 1, 50, 100, 1000, 100000}[r.Intn(6)]}
	if r.Intn(8) == 0 {
		s.First = api.MaxDay - season.MaxDays
	}
	for _, name := range []string{"a", "B.1", "most", "-"}[:sessions] {
		x := api.Session{Name: name, Load: []int{0, 1, 2, 3, 10, 11, 40, 80, 999, 1000}[r.Intn(10)]}
		x.Minutes, x.Worth, x.Hard = []int{0, 10, 50, 60, 1000}[r.Intn(5)], []int{0, 1, 1, 2, 5, 1000}[r.Intn(6)], r.Intn(3) == 0
		s.Sessions = append(s.Sessions, x)
	}
	plan := randomPlan(r, s)
	for range r.Intn(season.MaxRules + 1) {
		s.Rules = append(s.Rules, ruleNear(r, s, plan))
	}
	return s, plan
}

func TestH1Limits(t *testing.T) {
	want(t, "limits", told(season.MaxDays, season.MaxSessions, season.MaxRules, season.MaxText), "14 4 12 100000")
}

// given has arguments, with room behind their elements.
type given struct {
	s          api.Season
	plan, done []int
}

func newGiven() *given {
	s := seasonOf(9, apart(2), most(400), grow(150), taper(8, 3, 100), fixed(1, "fast"), count("easy", 1, 4))
	s.Before = 300
	s.Sessions, s.Rules = roomy(s.Sessions), roomy(s.Rules)
	return &given{s, roomy([]int{1, -1, 0, 0, 1, 1, -1, 0, -1}), roomy([]int{-1, 1})}
}

func roomy[T any](l []T) []T { return append(make([]T, 0, len(l)+9), l...) }

func all[T any](l []T) []T { return l[:cap(l)] }

// whole has the lists as long as their capacity is.
func (x *given) whole() given {
	y := given{x.s, all(x.plan), all(x.done)}
	y.s.Sessions, y.s.Rules = all(x.s.Sessions), all(x.s.Rules)
	return y
}

// TestH1OwnMemory asks whether arguments stay as they are, and whether results have memory of their own (Z2).
func TestH1OwnMemory(t *testing.T) {
	two := func(x any, e api.Errno) []any { return []any{x, e} }
	three := func(x any, ok bool, e api.Errno) []any { return []any{x, ok, e} }
	never := func(s api.Season) api.Season { s.Rules = append(slices.Clone(s.Rules), least(1000)); return s }
	calls := map[string]func(x *given) []any{
		"Check":   func(x *given) []any { return []any{season.Check(x.s)} },
		"Weekday": func(x *given) []any { return two(season.Weekday(x.s, 5)) },
		"Keeps":   func(x *given) []any { return two(season.Keeps(x.s, 1, x.plan)) },
		"Broken":  func(x *given) []any { return two(season.Broken(x.s, x.plan)) },
		"Worth":   func(x *given) []any { return two(season.Worth(x.s, x.plan)) },
		"Weeks":   func(x *given) []any { return two(season.Weeks(x.s, x.plan)) },
		"Loads":   func(x *given) []any { return two(season.Loads(x.s, x.plan)) },
		"Best":    func(x *given) []any { return three(season.Best(x.s, x.done)) },
		"Count":   func(x *given) []any { return two(season.Count(x.s, x.done)) },
		"Reason":  func(x *given) []any { return three(season.Reason(never(x.s), x.done)) },
		"Mend":    func(x *given) []any { return three(season.Mend(x.s, x.plan, x.done)) },
		"Idle":    func(x *given) []any { return two(season.Idle(x.s)) },
		"Diff":    func(x *given) []any { return two(season.Diff(x.plan, x.done)) },
		"Print":   func(x *given) []any { return two(season.Print(x.s)) },
		"Read": func(x *given) []any {
			text, _ := season.Print(x.s)
			s, _, e := season.Read(text)
			return []any{s, e}
		},
	}
	for name, call := range calls {
		x, y := newGiven(), newGiven()
		first := call(x)
		if first[len(first)-1] != api.OK || len(first) > 1 && reflect.ValueOf(first[0]).IsZero() {
			t.Errorf("%s: nothing comes of it: %v", name, first)
		}
		told := fmt.Sprint(first...)
		for _, r := range call(x) {
			v := reflect.New(reflect.TypeOf(r)).Elem()
			v.Set(reflect.ValueOf(r))
			scribble(v)
		}
		if !reflect.DeepEqual(x.whole(), y.whole()) {
			t.Errorf("%s: the arguments are others: %v", name, x.whole())
		}
		want(t, name+" once more", fmt.Sprint(first...), told)
	}
}

// scribble writes over all memory that the lists of a value have, also over their unused capacity.
func scribble(v reflect.Value) {
	switch v.Kind() {
	case reflect.Struct:
		for i := range v.NumField() {
			scribble(v.Field(i))
		}
	case reflect.Slice:
		v = v.Slice3(0, v.Cap(), v.Cap())
		for i := range v.Len() {
			v.Index(i).SetZero()
		}
	}
}

// answers has what all functions answer to arguments, by their names.
func answers(s api.Season, r, i int, plan, done []int) map[string][]any {
	two := func(x any, e api.Errno) []any { return []any{x, e} }
	three := func(x, y any, e api.Errno) []any { return []any{x, y, e} }
	best, found, e1 := season.Best(s, done)
	reason, because, e2 := season.Reason(s, done)
	mended, mends, e3 := season.Mend(s, plan, done)
	return map[string][]any{
		"Check":   {season.Check(s)},
		"Weekday": two(season.Weekday(s, i)),
		"Keeps":   two(season.Keeps(s, r, plan)),
		"Broken":  two(season.Broken(s, plan)),
		"Worth":   two(season.Worth(s, plan)),
		"Weeks":   two(season.Weeks(s, plan)),
		"Loads":   two(season.Loads(s, plan)),
		"Best":    three(best, found, e1),
		"Count":   two(season.Count(s, done)),
		"Reason":  three(reason, because, e2),
		"Mend":    three(mended, mends, e3),
		"Idle":    two(season.Idle(s)),
		"Print":   two(season.Print(s)),
	}
}

// wantError asks whether functions return an error, and all else as zero (Z3).
func wantError(t *testing.T, what string, l map[string][]any, e api.Errno, names ...string) {
	t.Helper()
	for _, name := range names {
		x := l[name]
		want(t, what+", "+name, told(x[len(x)-1]), told(e))
		for _, result := range x[:len(x)-1] {
			if !reflect.ValueOf(result).IsZero() {
				t.Errorf("%s, %s: %v", what, name, x)
			}
		}
	}
}

// TestH1First asks whether the functions return Check's error ahead of their own.
func TestH1First(t *testing.T) {
	s := seasonOf(3, off(2), apart(0))
	l := answers(s, 9, 9, []int{5}, []int{1, 2, 3, 4})
	wantError(t, "a wrong rule", l, api.ErrRange, "Check", "Weekday", "Keeps", "Broken", "Worth", "Weeks", "Loads", "Best", "Count", "Reason", "Mend", "Idle", "Print")
	s.Rules, s.Sessions[1].Name = nil, "easy"
	l = answers(s, 0, 0, []int{0, 0, 0}, nil)
	wantError(t, "a wrong session", l, api.ErrTwice, "Check", "Weekday", "Keeps", "Broken", "Worth", "Weeks", "Loads", "Best", "Count", "Reason", "Mend", "Idle", "Print")
}

// TestH1Plans has plans, and beginnings of plans, that are not right.
func TestH1Plans(t *testing.T) {
	s := seasonOf(3, off(2))
	withPlan := []string{"Keeps", "Broken", "Worth", "Weeks", "Loads", "Mend"}
	withDone := []string{"Best", "Count", "Reason", "Mend"}
	for _, plan := range [][]int{nil, {}, {0}, {0, 0}, {0, 0, 0, 0}, {0, 0, 2}, {2, 0, 0}, {0, -2, 0}, {1 << 62, 0, 0}, {0, 0, -1 << 63}} {
		wantError(t, fmt.Sprint("plan ", plan), answers(s, 5, 0, plan, nil), api.ErrForm, withPlan...)
	}
	for _, done := range [][]int{{0, 0, 0, 0}, {-1, -1, -1, -1}, {2}, {0, 2}, {-2}, {0, 0, -2}, {1 << 62}, {-1 << 63}} {
		wantError(t, fmt.Sprint("done ", done), answers(s, 0, 0, []int{0, 0, 0}, done), api.ErrForm, withDone...)
	}
	for _, plan := range [][]int{{0, 1, -1}, {-1, -1, -1}, {1, 1, 1}} {
		for i := range 4 {
			for name, l := range answers(s, 0, 0, plan, plan[:i]) {
				want(t, fmt.Sprint(name, plan, i), told(l[len(l)-1]), "0")
			}
		}
	}
	empty := api.Season{Days: 2}
	wantError(t, "without sessions", answers(empty, 0, 0, []int{0, -1}, []int{0}), api.ErrForm, "Broken", "Worth", "Weeks", "Loads", "Best", "Count", "Reason", "Mend")
	want(t, "without sessions", told(season.Best(empty, nil)), "[-1 -1] true 0")
}
