package season_test

import (
	"fmt"
	"math"
	"math/rand"
	"slices"
	"testing"

	"harrier/api"
	"harrier/season"
)

func TestH2KeepsWords(t *testing.T) {
	r := rand.New(rand.NewSource(82))
	seen := map[string]int{}
	for range 4000 {
		s, plan := randomSeason(r, 1+r.Intn(14), r.Intn(5))
		for range 3 {
			var broken []int
			for i, x := range s.Rules {
				ok, e := season.Keeps(s, i, plan)
				slow := slowKeeps(s, x, plan)
				want(t, fmt.Sprint(s, i, plan), told(ok, e), told(slow, 0))
				seen[fmt.Sprint(x.Kind, slow)]++
				if !slow {
					broken = append(broken, i)
				}
			}
			want(t, fmt.Sprint("Broken ", s, plan), told(season.Broken(s, plan)), told(broken, 0))
			plan = slices.Clone(plan)
			plan[r.Intn(len(plan))] = r.Intn(len(s.Sessions)+1) - 1
		}
	}
	for kind := api.RuleOff; kind <= api.RuleTaper; kind++ {
		for _, kept := range []bool{true, false} {
			if name := fmt.Sprint(kind, kept); seen[name] < 100 {
				t.Error("not often: ", name, seen[name])
			}
		}
	}
}

// plans with n for a day on which nothing is done, e for an easy one, and f for a fast one.
func planOf(text string) []int {
	var l []int
	for _, c := range text {
		l = append(l, map[rune]int{'n': -1, 'e': 0, 'f': 1}[c])
	}
	return l
}

func TestH2Keeps(t *testing.T) {
	for _, c := range []struct {
		r    api.Rule
		plan string
		want bool
	}{
		{off(0), "nfffffffn", false}, {off(0), "nffffffnf", true}, {off(0), "effffff", false}, {off(2), "ffnffff", true}, {off(6), "ffffff", true},
		{minutes(1, 50), "ef", true}, {minutes(1, 49), "ef", false}, {minutes(1, 0), "fnf", true}, {minutes(1, 50), "nfnnnnnnen", false}, {minutes(1, 60), "eeeeeeeeee", true},
		{most(240), "fff", true}, {most(239), "fff", false}, {most(240), "nnnnfffff", true}, {most(240), "nnnffffnn", false}, {most(240), "nnnnffffe", true}, {most(240), "nnnnfffffff", false}, {most(0), "nn", true}, {most(0), "nnnnnnnnen", false},
		{least(240), "fffnnnn", true}, {least(241), "fffnnnn", false}, {least(1), "nnnnnn", true}, {least(1), "nnnnnnn", false}, {least(240), "ffffnnnnnnnnn", true}, {least(240), "ffffnnnnnnnnnn", false}, {least(240), "ffffnnnnnnnfff", true}, {least(0), "nnnnnnn", true},
		{apart(1), "ffff", true}, {apart(2), "ffn", false}, {apart(2), "fefnf", true}, {apart(3), "fefnf", false}, {apart(3), "fennnenf", true}, {apart(14), "nnfnnnn", true}, {apart(13), "fnnnnnnnnnnnnf", true}, {apart(14), "fnnnnnnnnnnnnf", false}, {apart(14), "eeeeeeeeeeeeee", true},
		{count("easy", 1, 2), "ennnnnn", true}, {count("easy", 1, 2), "fffffff", false}, {count("easy", 1, 2), "ffffff", true}, {count("easy", 1, 2), "eee", false}, {count("easy", 1, 2), "ee", true}, {count("easy", 1, 2), "eenfffnee", true}, {count("easy", 1, 2), "eenfffneee", false}, {count("easy", 1, 2), "ennnnnnnnnnnnn", false}, {count("easy", 1, 2), "ennnnnnnnnnnn", true}, {count("fast", 7, 7), "fffffff", true}, {count("fast", 0, 0), "ef", false}, {count("fast", 0, 0), "enen", true},
		{fixed(1, "fast"), "efe", true}, {fixed(1, "fast"), "fef", false}, {fixed(1, "fast"), "fnf", false}, {fixed(1, ""), "fnf", true}, {fixed(1, ""), "fef", false},
		{taper(2, 2, 120), "eff", true}, {taper(2, 2, 119), "eff", false}, {taper(2, 1, 80), "eff", true}, {taper(2, 1, 79), "eff", false}, {taper(2, 14, 120), "eff", true}, {taper(2, 14, 119), "eff", false}, {taper(0, 14, 0), "fff", true}, {taper(3, 2, 0), "fnnf", true}, {taper(1, 1, 0), "nf", true}, {taper(8, 2, 80), "fffffefnf", true}, {taper(8, 2, 79), "fffffefnf", false},
	} {
		s := seasonOf(len(c.plan), c.r)
		ok, e := season.Keeps(s, 0, planOf(c.plan))
		want(t, fmt.Sprint(c.r, c.plan), told(ok, e), told(c.want, 0))
	}
}

func TestH2Grow(t *testing.T) {
	for _, c := range []struct {
		percent, before int
		plan            string
		want            bool
	}{
		{100, 80, "f", true}, {100, 79, "f", false}, {99, 80, "f", false}, {50, 160, "f", true}, {0, 100000, "e", false}, {0, 0, "nnn", true}, {100000, 0, "e", false}, {100000, 1, "ffffff", true},
		{150, 1000, "eennnnnee", true}, {150, 1000, "eennnnnef", true}, {149, 1000, "eennnnnef", false}, {150, 1000, "nnnnnnne", false}, {150, 1000, "nnnnnnnn", true}, {100, 80, "ffnnnnn", false}, {200, 80, "ffnnnnnffff", true}, {200, 80, "ffnnnnnffffe", false}, {100000, 0, "nnnnnnne", false},
	} {
		s := seasonOf(len(c.plan), grow(c.percent))
		s.Before = c.before
		ok, e := season.Keeps(s, 0, planOf(c.plan))
		want(t, fmt.Sprint(c), told(ok, e), told(c.want, 0))
	}
}

// TestH2Weekdays begins a season on a Saturday.
func TestH2Weekdays(t *testing.T) {
	for _, c := range []struct {
		r    api.Rule
		want string
	}{{off(5), "[0]"}, {off(6), "[]"}, {off(0), "[0]"}, {minutes(5, 59), "[0]"}, {minutes(6, 59), "[]"}, {minutes(0, 49), "[0]"}, {fixed(0, "fast"), "[0]"}, {fixed(2, "fast"), "[]"}, {taper(1, 1, 39), "[0]"}, {most(119), "[0]"}} {
		s := seasonOf(3, c.r)
		s.First = 5
		want(t, fmt.Sprint(c.r), told(season.Broken(s, planOf("enf"))), c.want+" 0")
	}
}

// TestH2Sums has weeks of the season, which are not those of the calendar.
func TestH2Sums(t *testing.T) {
	s := seasonOf(9)
	s.First = 3
	plan := planOf("efnnnnefe")
	want(t, "Loads", told(season.Loads(s, plan)), "[40 80 0 0 0 0 40 80 40] 0")
	want(t, "Weeks", told(season.Weeks(s, plan)), "[160 120] 0")
	want(t, "Worth", told(season.Worth(s, plan)), "19 0")
	s.Days = 7
	want(t, "Weeks, one", told(season.Weeks(s, plan[:7])), "[160] 0")
	s.Days = 14
	want(t, "Weeks, two", told(season.Weeks(s, append(plan, planOf("nnnff")...))), "[160 280] 0")
	s.Days = 1
	want(t, "Weeks, a day", told(season.Weeks(s, []int{-1})), "[0] 0")
	want(t, "Loads, a day", told(season.Loads(s, []int{-1})), "[0] 0")
	want(t, "Worth, a day", told(season.Worth(s, []int{-1})), "0 0")
	s = api.Season{Days: 14, Sessions: []api.Session{{Name: "a", Load: 1000, Minutes: 1, Worth: 999}}}
	want(t, "Weeks, full", told(season.Weeks(s, make([]int, 14))), "[7000 7000] 0")
	want(t, "Worth, full", told(season.Worth(s, make([]int, 14))), "13986 0")
}

func TestH2SumsWords(t *testing.T) {
	r := rand.New(rand.NewSource(83))
	for range 2000 {
		s, plan := randomSeason(r, 1+r.Intn(14), r.Intn(5))
		var loads, weeks []int
		worth := 0
		for day, n := range plan {
			loads = append(loads, slowLoad(s, plan, day, day+1))
			if n >= 0 {
				worth += s.Sessions[n].Worth
			}
		}
		for from := 0; from < s.Days; from += 7 {
			weeks = append(weeks, slowLoad(s, plan, from, from+7))
		}
		want(t, fmt.Sprint("Loads ", s, plan), told(season.Loads(s, plan)), told(loads, 0))
		want(t, fmt.Sprint("Weeks ", s, plan), told(season.Weeks(s, plan)), told(weeks, 0))
		want(t, fmt.Sprint("Worth ", s, plan), told(season.Worth(s, plan)), told(worth, 0))
	}
}

func TestH2Numbers(t *testing.T) {
	s := seasonOf(2, off(0), off(1))
	plan := []int{0, -1}
	want(t, "rule 0", told(season.Keeps(s, 0, plan)), "false 0")
	want(t, "rule 1", told(season.Keeps(s, 1, plan)), "true 0")
	for _, n := range []int{-1, 2, 12, math.MinInt, math.MaxInt} {
		want(t, fmt.Sprint("rule ", n), told(season.Keeps(s, n, plan)), "false 4")
		want(t, fmt.Sprint("rule ", n, ", no plan"), told(season.Keeps(s, n, nil)), "false 2")
	}
	want(t, "no rules", told(season.Keeps(seasonOf(2), 0, plan)), "false 4")
	want(t, "Broken, no rules", told(season.Broken(seasonOf(2), plan)), "[] 0")
}
