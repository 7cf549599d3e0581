package ask_test

import (
	"fmt"
	"math/rand"
	"regexp"
	"slices"
	"strings"
	"testing"

	"harrier/api"
	"harrier/ask"
	"harrier/quant"
)

func TestL2CheckCond(t *testing.T) {
	text := strings.Repeat("a", 60)
	for _, c := range []struct {
		c    api.Cond
		want string
	}{
		{api.Cond{}, "7"}, {api.Cond{Kind: 8}, "7"}, {api.Cond{Kind: -1}, "7"}, {api.Cond{Kind: 8, Low: 1e16, Text: "a", Kids: []api.Cond{{}}}, "7"},
		{allOf(), "0"}, {anyOf(), "0"}, {allOf(allOf()), "0"}, {not(anyOf()), "0"}, {allOf(sport(1), tag("a"), has("a"), field(1, 0, 0)), "0"},
		{sport(1), "0"}, {sport(5), "0"}, {sport(0), "7"}, {sport(6), "7"}, {sport(-1), "7"},
		{tag("a"), "0"}, {tag(text), "0"}, {tag(text + "a"), "8"}, {tag(""), "8"}, {tag("a b"), "8"}, {tag("ä"), "8"},
		{has("a"), "0"}, {has(text), "0"}, {has(text + "a"), "2"}, {has(""), "2"}, {has(" ~"), "0"}, {has("\x1f"), "2"}, {has("a\x7f"), "2"}, {has("ä"), "2"}, {has("\n"), "2"},
		{field(1, 0, 0), "0"}, {field(7, -5, 5), "0"}, {field(0, 0, 0), "7"}, {field(8, 0, 0), "7"}, {field(-1, 5, 4), "7"},
		{field(1, -1e15, 1e15), "0"}, {field(1, -1e15-1, 0), "9"}, {field(1, 0, 1e15+1), "9"}, {field(1, 5, 4), "9"}, {field(1, 1e15, 1e15), "0"}, {field(1, 1e15+1, 1e15+1), "9"}, {field(1, -1e15-1, -1e15-1), "9"}, {field(1, -1e15, -1e15), "0"},
		{api.Cond{Kind: 3}, "2"}, {api.Cond{Kind: 3, Kids: []api.Cond{allOf(), allOf()}}, "2"}, {api.Cond{Kind: 3, Kids: []api.Cond{{}, {}}}, "2"}, {api.Cond{Kind: 3, Kids: []api.Cond{{}}}, "7"},
		{allOf(sport(0), tag("")), "7"}, {allOf(tag(""), sport(0)), "8"}, {allOf(not(tag("")), sport(0)), "8"}, {allOf(allOf(), not(allOf(has(""))), sport(0)), "2"},
		{api.Cond{Kind: 1, Text: "a", Kids: []api.Cond{sport(0)}}, "2"},
	} {
		want(t, show(c.c), told(ask.CheckCond(c.c)), c.want)
	}
}

// TestL2Unused gives each kind each field that it does not use.
func TestL2Unused(t *testing.T) {
	used := map[int]string{1: "k", 2: "k", 3: "k", 4: "l", 5: "t", 6: "t", 7: "flh"}
	for kind, c := range map[int]api.Cond{1: allOf(), 2: anyOf(sport(1)), 3: not(allOf()), 4: sport(2), 5: tag("a"), 6: has("a"), 7: field(3, 1, 1)} {
		want(t, show(c), told(ask.CheckCond(c)), "0")
		for name, change := range map[string]func(c *api.Cond){
			"f": func(c *api.Cond) { c.Field = 3 },
			"l": func(c *api.Cond) { c.Low = 1 },
			"h": func(c *api.Cond) { c.High = 1 },
			"t": func(c *api.Cond) { c.Text = "a" },
			"k": func(c *api.Cond) { c.Kids = []api.Cond{allOf()} },
		} {
			x := c
			change(&x)
			wanted := "0"
			if !strings.Contains(used[kind], name) {
				wanted = "2"
			}
			want(t, show(x), told(ask.CheckCond(x)), wanted)
		}
		x := c
		x.Kids = append([]api.Cond{}, c.Kids...)
		want(t, "Kids that are empty", told(ask.CheckCond(x)), "0")
	}
	want(t, "an unused number of any size", told(ask.CheckCond(api.Cond{Kind: 1, Low: 1e16})), "2")
	want(t, "unused numbers that fall", told(ask.CheckCond(api.Cond{Kind: 5, Text: "a", Low: 5, High: 4})), "2")
}

func TestL2Size(t *testing.T) {
	runs := func(n int) []api.Cond { return many(n, func(int) api.Cond { return sport(1) }) }
	half := allOf(runs(49)...)
	for _, c := range []struct {
		what string
		c    api.Cond
		want string
	}{
		{"100 parts", allOf(runs(99)...), "0"}, {"101 parts", allOf(runs(100)...), "3"}, {"100 parts in two", anyOf(half, allOf(runs(48)...)), "0"}, {"101 parts in two", anyOf(half, half), "3"},
		{"many wrong parts", allOf(make([]api.Cond, 100)...), "3"}, {"100 parts, wrong ones too", allOf(make([]api.Cond, 99)...), "7"}, {"a wrong one with many parts", api.Cond{Kids: runs(100)}, "3"}, {"a wrong one with 100 parts", api.Cond{Kids: runs(99)}, "7"},
		{"a part 20 levels within", nested(20, sport(1)), "0"}, {"a part 21 levels within", nested(21, sport(1)), "3"}, {"a wrong part 20 levels within", nested(20, sport(0)), "7"}, {"a wrong part 21 levels within", nested(21, sport(0)), "7"},
		{"a wrong part 22 levels within", nested(22, sport(0)), "3"}, {"a part 21 levels within, and a wrong one behind", allOf(nested(20, sport(1)), sport(0)), "3"}, {"a wrong one, and a part 21 levels within", allOf(sport(0), nested(20, sport(1))), "7"},
		{"a part 99 levels within", nested(99, sport(1)), "3"}, {"a part 99 levels within, and wrong", nested(99, sport(0)), "3"}, {"60000 levels", nested(60000, sport(1)), "3"},
		{"empty ones 20 levels within", nested(20, allOf()), "0"}, {"empty ones 21 levels within", nested(21, anyOf()), "3"},
	} {
		want(t, c.what, told(ask.CheckCond(c.c)), c.want)
	}
}

// part is a part of a condition, so many levels within.
type part struct {
	api.Cond
	level int
}

// partsOf lists all parts, each ahead of those within it.
func partsOf(c api.Cond, level int) []part {
	l := []part{{c, level}}
	for _, x := range c.Kids {
		l = append(l, partsOf(x, level+1)...)
	}
	return l
}

var (
	nameForm = regexp.MustCompile(`^[a-zA-Z0-9_.-]{1,60}$`)
	textForm = regexp.MustCompile(`^[ -~]{1,60}$`)
)

// slowCheckCond goes through all that can be wrong, in the order of the document.
func slowCheckCond(c api.Cond) api.Errno {
	l := partsOf(c, 0)
	if len(l) > 100 {
		return api.ErrSize
	}
	far := func(n int) bool { return n < -1_000_000_000_000_000 || n > 1_000_000_000_000_000 }
	for _, p := range l {
		is := func(kinds ...int) bool { return slices.Contains(kinds, p.Kind) }
		for _, x := range []struct {
			wrong bool
			e     api.Errno
		}{
			{!is(1, 2, 3, 4, 5, 6, 7), api.ErrKind},
			{is(7) && (p.Field < 1 || p.Field > 7), api.ErrKind},
			{is(4) && (p.Low < 1 || p.Low > 5), api.ErrKind},
			{is(7) && (far(p.Low) || far(p.High) || p.Low > p.High), api.ErrRange},
			{is(5) && !nameForm.MatchString(p.Text), api.ErrName},
			{is(6) && !textForm.MatchString(p.Text), api.ErrForm},
			{!is(7) && p.Field != 0, api.ErrForm},
			{!is(4, 7) && p.Low != 0, api.ErrForm},
			{!is(7) && p.High != 0, api.ErrForm},
			{!is(5, 6) && p.Text != "", api.ErrForm},
			{!is(1, 2, 3) && len(p.Kids) > 0, api.ErrForm},
			{is(3) && len(p.Kids) != 1, api.ErrForm},
			{p.level > 20, api.ErrSize},
		} {
			if x.wrong {
				return x.e
			}
		}
	}
	return api.OK
}

// spoilCond changes a part of a condition, in its memory.
func spoilCond(r *rand.Rand, c *api.Cond) {
	if len(c.Kids) > 0 && r.Intn(3) > 0 {
		spoilCond(r, &c.Kids[r.Intn(len(c.Kids))])
		return
	}
	n := one(r, -1, 0, 1, 2, 6, 8, 1_000_000_000_000_000, 1_000_000_000_000_001, -1_000_000_000_000_001)
	switch r.Intn(7) {
	case 0:
		c.Kind = one(r, n, r.Intn(9))
	case 1:
		c.Field = n
	case 2:
		c.Low = n
	case 3:
		c.High = n
	case 4:
		c.Text = one(r, "", "a", "a b", "ä", strings.Repeat("a", 61))
	case 5:
		c.Kids = append(c.Kids, sport(r.Intn(3)))
	case 6:
		*c = nested(one(r, 1, 5, 20, 21), *c)
	}
}

func TestL2CheckRandom(t *testing.T) {
	r := rand.New(rand.NewSource(122))
	seen := map[api.Errno]int{}
	for range 40000 {
		c := randomCond(r, r.Intn(4))
		want(t, show(c), told(ask.CheckCond(c)), "0")
		for range 1 + r.Intn(2) {
			spoilCond(r, &c)
		}
		e := ask.CheckCond(c)
		seen[e]++
		want(t, show(c), told(e), told(slowCheckCond(c)))
		if e == api.OK {
			continue
		}
		want(t, show(c), told(ask.Holds(c, api.Row{})), told(false, e))
		want(t, show(c), told(ask.Never(c)), told(false, e))
		want(t, show(c), told(ask.PrintCond(c)), told("", e))
		want(t, show(c), told(ask.CheckQuery(api.Query{Where: c, Group: 9})), told(e))
		want(t, show(c), told(ask.CheckBadge(api.Badge{Name: "a", Kind: 1, Field: 9, Where: c})), told(e))
	}
	wantOften(t, seen, api.OK, api.ErrKind, api.ErrRange, api.ErrName, api.ErrForm, api.ErrSize)
}

func TestL2Holds(t *testing.T) {
	r := full()
	yes, no := sport(api.Ski), sport(api.Run)
	for _, c := range []struct {
		c    api.Cond
		want bool
	}{
		{yes, true}, {no, false}, {allOf(), true}, {anyOf(), false}, {not(allOf()), false}, {not(anyOf()), true},
		{allOf(yes), true}, {allOf(no), false}, {anyOf(yes), true}, {anyOf(no), false}, {allOf(yes, no), false}, {allOf(no, yes), false}, {anyOf(yes, no), true}, {anyOf(no, yes), true}, {allOf(yes, yes), true}, {anyOf(no, no), false},
		{not(yes), false}, {not(no), true}, {not(not(yes)), true}, {allOf(yes, not(no), anyOf(no, yes)), true},
		{tag("a"), true}, {tag("b"), true}, {tag("c"), false}, {tag("A"), false}, {tag("ab"), false}, {tag("full"), false},
		{has("full"), true}, {has("f"), true}, {has("ul"), true}, {has("fl"), false}, {has("F"), false}, {has("fulls"), false}, {has(" "), false}, {has("a"), false},
		{field(3, 100, 100), true}, {field(3, 101, 200), false},
	} {
		want(t, show(c.c), told(ask.Holds(c.c, r)), told(c.want, 0))
	}
	want(t, "a wrong condition and a wrong row", told(ask.Holds(sport(0), api.Row{})), "false 7")
	want(t, "a wrong row", told(ask.Holds(allOf(), api.Row{})), "false 8")
	for n := range 6 {
		r.Sport = max(n, 1)
		want(t, "sports", told(ask.Holds(sport(max(n, 1)), r)), "true 0")
	}
}

// slowHolds counts for how many Kids a condition holds.
func slowHolds(c api.Cond, r api.Row) bool {
	count := 0
	for _, x := range c.Kids {
		if slowHolds(x, r) {
			count++
		}
	}
	day := r.Start / 86400
	weekday, _ := quant.Weekday(day)
	n := []int{0, r.Start, day, r.Way, r.Climb, r.Seconds, r.Load, weekday}[c.Field]
	return map[int]bool{
		api.CondAll:   count == len(c.Kids),
		api.CondAny:   count > 0,
		api.CondNot:   count == 0,
		api.CondSport: r.Sport == c.Low,
		api.CondTag:   strings.Contains(" "+strings.Join(r.Tags, " ")+" ", " "+c.Text+" "),
		api.CondHas:   len(strings.Split(r.Name, c.Text)) > 1,
		api.CondField: c.Low <= n && n <= c.High,
	}[c.Kind]
}

func TestL2HoldsRandom(t *testing.T) {
	r := rand.New(rand.NewSource(123))
	seen := map[bool]int{}
	for range 40000 {
		c, x := randomCond(r, r.Intn(4)), randomRow(r, one(r, "a", "b-", "a12", "c"))
		yes := slowHolds(c, x)
		seen[yes]++
		want(t, fmt.Sprint(show(c), " of ", x), told(ask.Holds(c, x)), told(yes, 0))
	}
	if min(seen[true], seen[false]) < 5000 {
		t.Error("not often: ", seen)
	}
}
