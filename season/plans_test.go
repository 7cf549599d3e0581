package season_test

import (
	"fmt"
	"math/rand"
	"slices"
	"testing"

	"harrier/api"
	"harrier/season"
)

// A slow has all plans that begin with what was done, from the least list on, with the rules that each one keeps.
type slow struct {
	s     api.Season
	done  int
	plans [][]int
	kept  []int // bits of rules
}

func newSlow(s api.Season, done []int) *slow {
	x := &slow{s: s, done: len(done)}
	plan := slices.Concat(done, make([]int, s.Days-len(done)))
	var fill func(day int)
	fill = func(day int) {
		if day == s.Days {
			x.plans = append(x.plans, slices.Clone(plan))
			x.kept = append(x.kept, keptBits(s, plan))
			return
		}
		for plan[day] = -1; plan[day] < len(s.Sessions); plan[day]++ {
			fill(day + 1)
		}
	}
	fill(len(done))
	return x
}

func keptBits(s api.Season, plan []int) int {
	bits := 0
	for i, r := range s.Rules {
		if slowKeeps(s, r, plan) {
			bits |= 1 << i
		}
	}
	return bits
}

// count returns how many plans keep rules.
func (x *slow) count(rules int) int {
	many := 0
	for _, kept := range x.kept {
		if kept&rules == rules {
			many++
		}
	}
	return many
}

func (x *slow) allRules() int { return 1<<len(x.s.Rules) - 1 }

// best returns the plan with the fewest changes, the greatest worth, and the least list; without a plan to change just the latter two count.
func (x *slow) best(from []int) string {
	var best []int
	bestChanges, bestWorth := 0, 0
	for i, plan := range x.plans {
		if x.kept[i] != x.allRules() {
			continue
		}
		changes, worth := 0, 0
		for day, n := range plan {
			if from != nil && day >= x.done && n != from[day] {
				changes++
			}
			if n >= 0 {
				worth += x.s.Sessions[n].Worth
			}
		}
		if best == nil || changes < bestChanges || changes == bestChanges && worth > bestWorth {
			best, bestChanges, bestWorth = plan, changes, worth
		}
	}
	return told(best, best != nil, 0)
}

func bitNumbers(bits int) []int {
	var l []int
	for i := range 20 {
		if bits>>i&1 == 1 {
			l = append(l, i)
		}
	}
	return l
}

func (x *slow) reason() string {
	if x.count(x.allRules()) > 0 {
		return "[] false 0"
	}
	left := x.allRules()
	for i := range x.s.Rules {
		if x.count(left&^(1<<i)) == 0 {
			left &^= 1 << i
		}
	}
	return told(bitNumbers(left), true, 0)
}

// idle asks each plan that keeps all other rules.
func (x *slow) idle() string {
	idle := x.allRules()
	for _, kept := range x.kept {
		for i := range x.s.Rules {
			if others := x.allRules() &^ (1 << i); kept == others {
				idle &^= 1 << i
			}
		}
	}
	return told(bitNumbers(idle), 0)
}

// compare holds all that looks for plans to a search through all of them, and tells whether there is one, and whether rules are idle.
func compare(t *testing.T, s api.Season, plan, done []int) (some bool, idle string) {
	t.Helper()
	x := newSlow(s, done)
	what := fmt.Sprint(s, plan, done)
	many := x.count(x.allRules())
	want(t, "Count "+what, told(season.Count(s, done)), told(many, 0))
	want(t, "Best "+what, told(season.Best(s, done)), x.best(nil))
	want(t, "Mend "+what, told(season.Mend(s, plan, done)), x.best(plan))
	want(t, "Reason "+what, told(season.Reason(s, done)), x.reason())
	if len(done) == 0 {
		idle = x.idle()
		want(t, "Idle "+what, told(season.Idle(s)), idle)
	}
	return many > 0, idle
}

// sizes has seasons with no more plans than can be looked at one by one: their days, and how many sessions.
var sizes = [][2]int{{1, 4}, {2, 4}, {3, 4}, {4, 4}, {5, 4}, {5, 3}, {6, 3}, {7, 3}, {6, 2}, {7, 2}, {8, 2}, {9, 2}, {8, 1}, {10, 1}, {12, 1}, {13, 1}, {14, 1}, {14, 0}}

func TestH3PlansWords(t *testing.T) {
	r := rand.New(rand.NewSource(84))
	seen := map[string]int{}
	for i := range 900 {
		size := sizes[i%len(sizes)]
		s, plan := randomSeason(r, size[0], size[1])
		var done []int
		if r.Intn(3) == 0 {
			done = plan[:r.Intn(s.Days+1)]
		}
		other := plan
		if r.Intn(2) == 0 {
			other = randomPlan(r, s)
		}
		some, idle := compare(t, s, other, done)
		seen[fmt.Sprint(some)]++
		seen[fmt.Sprint("idle ", len(idle) > len("[] 0"))]++
	}
	for _, name := range []string{"true", "false", "idle true", "idle false"} {
		if seen[name] < 80 {
			t.Error("not often: ", name, seen[name])
		}
	}
}

// TestH3LongPlansWords has seasons of two weeks, most of whose days are done.
func TestH3LongPlansWords(t *testing.T) {
	r := rand.New(rand.NewSource(85))
	found := 0
	for range 600 {
		s, plan := randomSeason(r, 11+r.Intn(4), 2+r.Intn(3))
		done := slices.Clone(plan[:s.Days-4-r.Intn(2)])
		if r.Intn(3) == 0 {
			done[r.Intn(len(done))] = r.Intn(len(s.Sessions)+1) - 1
		}
		some, _ := compare(t, s, randomPlan(r, s), done)
		if some {
			found++
		}
	}
	if found < 100 || found > 500 {
		t.Error("plans were found: ", found)
	}
}

// TestH3Tapers has many bounds at once, which begin and end on all kinds of days, and loads that can be told from one another.
func TestH3Tapers(t *testing.T) {
	r := rand.New(rand.NewSource(86))
	for range 60 {
		s := seasonOf(9, grow(100+r.Intn(100)))
		s.Before = 200 + r.Intn(200)
		s.Sessions[0].Load, s.Sessions[1].Load = 30+r.Intn(20), 70+r.Intn(30)
		for range 9 {
			low := 1 + r.Intn(9)
			s.Rules = append(s.Rules, taper(r.Intn(9), low, low*(20+r.Intn(50))))
		}
		s.Rules = append(s.Rules, most(200+r.Intn(150)), least(100+r.Intn(100)))
		compare(t, s, randomPlan(r, s), nil)
	}
}

// TestH3Same has all plans worth the same: the least list is the best.
func TestH3Same(t *testing.T) {
	s := seasonOf(4, count("easy", 0, 1), apart(2), fixed(3, "fast"))
	s.Sessions[0].Worth, s.Sessions[1].Worth = 0, 0
	want(t, "worth 0", told(season.Best(s, nil)), "[-1 -1 -1 1] true 0")
	s.Sessions[0].Worth, s.Sessions[1].Worth = 2, 2
	want(t, "worth 2", told(season.Best(s, nil)), "[-1 1 0 1] true 0")
	want(t, "worth 2, behind a day", told(season.Best(s, []int{0})), "[0 1 -1 1] true 0")
	want(t, "without a plan", told(season.Best(s, []int{0, -1, 1})), "[] false 0")
	want(t, "all is done", told(season.Best(s, []int{-1, 0, -1, 1})), "[-1 0 -1 1] true 0")
	want(t, "all is done, but not rightly", told(season.Best(s, []int{-1, 0, -1, 0})), "[] false 0")
}

// large has plans that are too many to look at.
func large(l ...api.Rule) api.Season {
	s := api.Season{Days: 14, Before: 3000, Rules: l}
	for i := range 4 {
		s.Sessions = append(s.Sessions, api.Session{Name: "abcd"[i : i+1], Load: []int{1, 15, 211, 997}[i], Minutes: 100 * i, Worth: i, Hard: i > 1})
	}
	return s
}

func TestH3Large(t *testing.T) {
	const (
		week = 78125 // plans
		all  = week * week
	)
	for _, c := range []struct {
		what  string
		rules []api.Rule
		many  int
	}{
		{"no rules", nil, all},
		{"off", []api.Rule{off(3)}, all / 25},
		{"minutes", []api.Rule{minutes(0, 100)}, all / 25 * 9},
		{"fixed", []api.Rule{fixed(5, "c"), fixed(9, "")}, all / 25},
		{"at most all", []api.Rule{most(7 * 997)}, all},
		{"at most nearly all", []api.Rule{most(7*997 - 1)}, (week - 1) * (week - 1)},
		{"at least all", []api.Rule{least(7 * 997)}, 1},
		{"at least more than all", []api.Rule{least(100000)}, 0},
		{"at least 1", []api.Rule{least(1)}, (week - 1) * (week - 1)},
		{"counts", []api.Rule{count("a", 2, 2), count("b", 5, 5)}, 21 * 21},
		{"a count", []api.Rule{count("a", 2, 3)}, (21*1024 + 35*256) * (21*1024 + 35*256)},
		{"counts that leave none", []api.Rule{count("a", 4, 7), count("b", 4, 7)}, 0},
		{"one hard one at most", []api.Rule{apart(14)}, 4782969 + 14*2*1594323},
		{"hard ones next to one another", []api.Rule{apart(1)}, all},
		{"nothing more", []api.Rule{grow(0)}, 1},
		{"a taper", []api.Rule{taper(13, 13, 0)}, 5},
		{"two tapers", []api.Rule{taper(13, 3, 0), taper(13, 14, 100000)}, all / 125},
	} {
		want(t, c.what, told(season.Count(large(c.rules...), nil)), told(c.many, 0))
	}
}

// TestH3LargeWeeks counts plans by the loads of both weeks.
func TestH3LargeWeeks(t *testing.T) {
	s := large()
	many := map[int]int{0: 1} // plans of a week by their load
	for range 7 {
		next := map[int]int{}
		for load, n := range many {
			next[load] += n
			for _, x := range s.Sessions {
				next[load+x.Load] += n
			}
		}
		many = next
	}
	for _, percent := range []int{1, 50, 99, 100, 101, 150, 1000, 50000, 100000} {
		rules := []api.Rule{grow(percent), most(4500), least(100)}
		wanted := 0
		for first, n := range many {
			for second, m := range many {
				fits := 100*first <= percent*s.Before && 100*second <= percent*first
				if fits && min(first, second) >= 100 && max(first, second) <= 4500 {
					wanted += n * m
				}
			}
		}
		want(t, fmt.Sprint(percent), told(season.Count(large(rules...), nil)), told(wanted, 0))
	}
}

// TestH3Many has as many rules as there can be, so that much is to be looked at.
func TestH3Many(t *testing.T) {
	s := large(grow(141), count("a", 0, 5), taper(10, 9, 5229), taper(11, 5, 3180), taper(12, 2, 1244), taper(12, 8, 3552), taper(12, 10, 4550), taper(13, 8, 3600), taper(6, 2, 1596), taper(9, 4, 1800), taper(8, 3, 1500), taper(7, 6, 2500))
	for i, n := range []int{520, 332, 227, 992} {
		s.Sessions[i].Load, s.Sessions[i].Worth, s.Sessions[i].Hard = n, n, false
	}
	plan, ok, e := season.Best(s, nil)
	want(t, "Best", told(ok, e), "true 0")
	want(t, "Broken", told(season.Broken(s, plan)), "[] 0")
	many, _ := season.Count(s, nil)
	for day := range s.Days {
		sum := 0
		for n := -1; n < 4; n++ {
			done := append(slices.Clone(plan[:day]), n)
			part, _ := season.Count(s, done)
			sum += part
			best, ok, _ := season.Best(s, done)
			if worth, _ := season.Worth(s, best); ok && (worth > slowWorth(s, plan) || worth == slowWorth(s, plan) && slices.Compare(best, plan) < 0) {
				t.Error("a better one: ", best, plan)
			}
			if n == plan[day] {
				want(t, "Best behind it", told(best), told(plan))
			}
		}
		want(t, fmt.Sprint("parts of day ", day), told(sum), told(many))
		many, _ = season.Count(s, plan[:day+1])
	}
}

func slowWorth(s api.Season, plan []int) int {
	worth := 0
	for _, n := range plan {
		if n >= 0 {
			worth += s.Sessions[n].Worth
		}
	}
	return worth
}

func TestH3Reason(t *testing.T) {
	for _, c := range []struct {
		what  string
		rules []api.Rule
		done  []int
		want  string
	}{
		{"no rules", nil, nil, "[] false 0"},
		{"a plan", []api.Rule{off(0), most(0)}, nil, "[] false 0"},
		{"one rule", []api.Rule{off(0), least(10000), most(0)}, nil, "[1] true 0"},
		{"two rules", []api.Rule{off(0), least(100), most(99)}, nil, "[1 2] true 0"},
		{"the later one of two", []api.Rule{fixed(0, "easy"), off(0), fixed(0, "easy"), off(0)}, nil, "[2 3] true 0"},
		{"what was done", []api.Rule{off(1), off(0)}, []int{0}, "[1] true 0"},
		{"what was done, rightly", []api.Rule{off(1), off(0)}, []int{-1}, "[] false 0"},
	} {
		s := seasonOf(7, c.rules...)
		want(t, c.what, told(season.Reason(s, c.done)), c.want)
	}
}

func TestH3Idle(t *testing.T) {
	for _, c := range []struct {
		what  string
		rules []api.Rule
		want  string
	}{
		{"no rules", nil, "[] 0"},
		{"two that are the same", []api.Rule{off(0), off(1), off(0)}, "[0 2] 0"},
		{"one that says less", []api.Rule{most(100), most(79), most(101)}, "[0 2] 0"},
		{"less than can be", []api.Rule{most(559), most(560)}, "[1] 0"},
		{"no plan by one", []api.Rule{off(0), least(10000)}, "[0] 0"},
		{"no plan by two", []api.Rule{fixed(0, "easy"), least(50), fixed(0, "")}, "[1] 0"},
		{"no plan by two pairs", []api.Rule{fixed(0, "easy"), fixed(0, ""), fixed(1, "easy"), fixed(1, "")}, "[0 1 2 3] 0"},
	} {
		want(t, c.what, told(season.Idle(seasonOf(7, c.rules...))), c.want)
	}
}

func TestH4Mend(t *testing.T) {
	for _, c := range []struct {
		what, plan string
		done       []int
		rules      []api.Rule
		want       string
	}{
		{"nothing to mend", "fef", nil, []api.Rule{apart(2)}, "[1 0 1] true 0"},
		{"one day", "ffn", nil, []api.Rule{apart(2)}, "[0 1 -1] true 0"},
		{"one day, and most worth", "ffn", nil, []api.Rule{apart(2), fixed(0, "fast")}, "[1 0 -1] true 0"},
		{"what was done is not counted", "eee", []int{1, 1}, nil, "[1 1 0] true 0"},
		{"what was done costs more", "fff", []int{-1}, []api.Rule{most(160)}, "[-1 1 1] true 0"},
		{"few changes, not much worth", "nnn", nil, []api.Rule{fixed(1, "easy")}, "[-1 0 -1] true 0"},
		{"no plan", "nnn", []int{0}, []api.Rule{off(0)}, "[] false 0"},
		{"all is done", "nnn", []int{0, 0, 0}, nil, "[0 0 0] true 0"},
	} {
		s := seasonOf(len(c.plan), c.rules...)
		want(t, c.what, told(season.Mend(s, planOf(c.plan), c.done)), c.want)
	}
	s := seasonOf(2, most(100))
	s.Sessions[1].Worth = 3
	want(t, "the least list", told(season.Mend(s, []int{1, 1}, nil)), "[-1 1] true 0")
	s.Rules = []api.Rule{most(79)}
	want(t, "the least list of those with two changes", told(season.Mend(s, []int{1, 1}, nil)), "[-1 0] true 0")
	s.Rules = []api.Rule{most(120)}
	want(t, "most worth ahead of the least list", told(season.Mend(s, []int{1, 1}, nil)), "[0 1] true 0")
}

func TestH4Diff(t *testing.T) {
	long := make([]int, 1000)
	for _, c := range []struct {
		what string
		a, b []int
		want string
	}{
		{"nothing", nil, nil, "[] 0"},
		{"equal ones", []int{1, -1, 5}, []int{1, -1, 5}, "[] 0"},
		{"a day", []int{1, -1, 5}, []int{1, 3, 5}, "[{1 -1 3}] 0"},
		{"all days", []int{1, 2}, []int{2, 1}, "[{0 1 2} {1 2 1}] 0"},
		{"a longer one", []int{1}, []int{1, -1, 0, -1, 7}, "[{2 -1 0} {4 -1 7}] 0"},
		{"a shorter one", []int{1, -1, 0, -1, 7}, []int{0}, "[{0 1 0} {2 0 -1} {4 7 -1}] 0"},
		{"only days without", []int{-1, -1}, nil, "[] 0"},
		{"great numbers", []int{1 << 62}, []int{1<<62 + 1}, "[{0 4611686018427387904 4611686018427387905}] 0"},
		{"below -1", []int{0, -2}, nil, "[] 9"},
		{"below -1, the second one", nil, []int{-1 << 63}, "[] 9"},
		{"too long", append(slices.Clone(long), 0), nil, "[] 3"},
		{"too long, the second one", []int{-2}, append(slices.Clone(long), 0), "[] 3"},
		{"as long as can be, and wrong", long, append(slices.Clone(long[1:]), -2), "[] 9"},
		{"as long as can be", long, append(slices.Clone(long[1:]), 1), "[{999 0 1}] 0"},
	} {
		want(t, c.what, told(season.Diff(c.a, c.b)), c.want)
	}
}
