package ask_test

import (
	"fmt"
	"math/rand"
	"slices"
	"strings"
	"testing"

	"harrier/api"
	"harrier/ask"
)

func badge(kind, field, n int) api.Badge {
	return api.Badge{Name: "b", Kind: kind, Field: field, N: n, Where: allOf()}
}

func TestL6CheckBadge(t *testing.T) {
	for _, c := range []struct {
		what string
		b    api.Badge
		want string
	}{
		{"many", badge(1, 0, 1), "0"}, {"sum", badge(2, 1, 1), "0"}, {"most", badge(3, 7, 1), "0"}, {"streak", badge(4, 0, 1), "0"},
		{"no kind", badge(0, 0, 1), "7"}, {"a kind above", badge(5, 0, 1), "7"}, {"a kind below", badge(-1, 0, 1), "7"},
		{"many of a field", badge(1, 1, 1), "7"}, {"streak of a field", badge(4, 7, 1), "7"}, {"sum of none", badge(2, 0, 1), "7"}, {"sum above", badge(2, 8, 1), "7"}, {"most of none", badge(3, 0, 1), "7"}, {"most above", badge(3, 8, 1), "7"}, {"sum below", badge(2, -1, 1), "7"}, {"many below", badge(1, -1, 1), "7"},
		{"N 0", badge(1, 0, 0), "9"}, {"N below", badge(4, 0, -1), "9"}, {"N at its most", badge(2, 3, 1e13), "0"}, {"N above", badge(3, 3, 1e13+1), "9"}, {"a wrong field and N", badge(1, 1, 0), "7"},
		{"no name", api.Badge{Kind: 9, Where: allOf()}, "8"}, {"a long name", api.Badge{Name: strings.Repeat("a", 61), Kind: 1, N: 1, Where: allOf()}, "8"}, {"a name as long as can be", api.Badge{Name: strings.Repeat("a", 60), Kind: 1, N: 1, Where: allOf()}, "0"},
		{"a wrong condition", api.Badge{Name: "b", Kind: 1, N: 1, Where: has("")}, "2"}, {"a wrong condition, field and N", api.Badge{Name: "b", Kind: 1, Field: 1, Where: has("")}, "2"}, {"a wrong kind and condition", api.Badge{Name: "b", Where: has("")}, "7"},
	} {
		want(t, c.what, told(ask.CheckBadge(c.b)), c.want)
		if c.want == "0" {
			continue
		}
		other := api.Badge{Name: "a", Kind: 1, N: 1, Where: allOf()}
		for _, l := range [][]api.Badge{{c.b}, {other, c.b}, {c.b, other, other}} {
			want(t, c.what+", Badges", told(ask.Badges(l, []api.Row{{}})), "[] "+c.want)
			want(t, c.what+", SetBadges", told(ask.NewLog().SetBadges(l)), c.want)
		}
	}
}

func namedBadges(n int) []api.Badge {
	return many(n, func(i int) api.Badge {
		return api.Badge{Name: fmt.Sprint("b", i), Kind: api.BadgeMany, N: 1, Where: allOf()}
	})
}

func TestL6Lists(t *testing.T) {
	for _, c := range []struct {
		what string
		l    []api.Badge
		want string
	}{
		{"none", nil, "0"}, {"as many as can be", namedBadges(50), "0"}, {"one more", namedBadges(51), "3"}, {"too many, all wrong", make([]api.Badge, 51), "3"},
		{"a name twice", append(namedBadges(3), namedBadges(1)...), "5"}, {"a name twice, then a wrong one", append(namedBadges(3), namedBadges(3)[2], api.Badge{}), "5"}, {"a wrong one, then a name twice", append(namedBadges(3), api.Badge{}, namedBadges(1)[0]), "8"}, {"a name twice, wrong the second time", append(namedBadges(3), api.Badge{Name: "b1", Kind: 1, Where: allOf()}), "9"},
	} {
		l, e := ask.Badges(c.l, nil)
		want(t, c.what, told(len(l), e), "0 "+c.want)
		want(t, c.what+", SetBadges", told(ask.NewLog().SetBadges(c.l)), c.want)
	}
	want(t, "wrong rows", told(ask.Badges(namedBadges(2), []api.Row{row("a", 5), row("a", 6)})), "[] 5")
	want(t, "wrong badges and rows", told(ask.Badges(make([]api.Badge, 1), make([]api.Row, 5001))), "[] 8")
}

func TestL6Badges(t *testing.T) {
	const day = api.DayLong
	rows := []api.Row{
		{Name: "f", Sport: api.Run, Start: 9 * day, Way: 500, Load: 2},
		{Name: "b", Sport: api.Run, Start: 5, Way: 100, Load: 1},
		{Name: "a", Sport: api.Ride, Start: 5, Way: 300, Load: 7},
		{Name: "c", Sport: api.Run, Start: day - 1, Way: 50, Load: 1},
		{Name: "d", Sport: api.Run, Start: day, Way: 50, Load: 1},
		{Name: "e", Sport: api.Run, Start: 3*day + 9, Way: 400, Load: 1},
		{Name: "g", Sport: api.Run, Start: 10 * day, Load: 9},
		{Name: "h", Sport: api.Run, Start: 10*day + 5},
		{Name: "i", Sport: api.Run, Start: 11 * day},
	}
	for _, c := range []struct {
		what, where string
		b           api.Badge
		want        string
	}{
		{"the first row", "all", badge(1, 0, 1), "a 5"}, {"the second row, at the same time", "all", badge(1, 0, 2), "b 5"}, {"the last row", "all", badge(1, 0, 9), "i 950400"}, {"more rows than there are", "all", badge(1, 0, 10), ""},
		{"the third one that holds", "run", badge(1, 0, 3), "d 86400"}, {"none holds", "swim", badge(1, 0, 1), ""},
		{"a sum that is reached just so", "all", badge(2, 3, 400), "b 5"}, {"one more", "all", badge(2, 3, 401), "c 86399"}, {"the sum of all", "all", badge(2, 3, 1400), "f 777600"}, {"one more than all", "all", badge(2, 3, 1401), ""}, {"the sum of those that hold", "run", badge(2, 3, 400), "e 259209"}, {"the sum of days", "all", badge(2, 2, 4), "e 259209"},
		{"the most, just so", "all", badge(3, 3, 300), "a 5"}, {"the most, later", "all", badge(3, 3, 301), "e 259209"}, {"the most of all", "all", badge(3, 3, 500), "f 777600"}, {"more than the most", "all", badge(3, 3, 501), ""}, {"the most of those that hold", "not ride", badge(3, 6, 2), "f 777600"}, {"the most of a weekday", "all", badge(3, 7, 3), "e 259209"},
		{"a day", "all", badge(4, 0, 1), "a 5"}, {"two days", "all", badge(4, 0, 2), "d 86400"}, {"three days", "all", badge(4, 0, 3), "i 950400"}, {"four days", "all", badge(4, 0, 4), ""}, {"two days of those that hold", "load 2..9", badge(4, 0, 2), "g 864000"}, {"two days of one that holds a day", "ride", badge(4, 0, 2), ""}, {"the day of the only one", "way 500..500", badge(4, 0, 1), "f 777600"},
	} {
		c.b.Where = readCond(t, c.where)
		wanted := "[] 0"
		if c.want != "" {
			wanted = "[{b " + c.want + "}] 0"
		}
		want(t, c.what, told(ask.Badges([]api.Badge{c.b}, rows)), wanted)
	}
	l := []api.Badge{{Name: "z", Kind: 1, N: 1, Where: allOf()}, {Name: "x", Kind: 1, N: 2, Where: allOf()}, {Name: "y", Kind: 1, N: 4, Where: allOf()}, {Name: "w", Kind: 1, N: 1, Where: allOf()}, {Name: "v", Kind: 1, N: 99, Where: allOf()}}
	want(t, "in order", told(ask.Badges(l, rows)), "[{w a 5} {z a 5} {x b 5} {y d 86400}] 0")
}

// slowEarned looks at each row with all that are before it.
func slowEarned(badges []api.Badge, rows []api.Row) []api.Earned {
	rows = slices.Clone(rows)
	slices.SortFunc(rows, func(a, b api.Row) int {
		return strings.Compare(fmt.Sprintf("%012d%s", a.Start, a.Name), fmt.Sprintf("%012d%s", b.Start, b.Name))
	})
	var list []api.Earned
	for _, r := range rows {
		var now []string
		for _, b := range badges {
			until := slices.DeleteFunc(slices.Clone(rows[:slices.IndexFunc(rows, func(x api.Row) bool { return x.Name == r.Name })+1]), func(x api.Row) bool { return !slowHolds(b.Where, x) })
			isNew := !slices.ContainsFunc(list, func(x api.Earned) bool { return x.Badge == b.Name })
			if isNew && slowHolds(b.Where, r) && isEarned(b, until) {
				now = append(now, b.Name)
			}
		}
		slices.Sort(now)
		for _, name := range now {
			list = append(list, api.Earned{Badge: name, Row: r.Name, Start: r.Start})
		}
	}
	return list
}

// isEarned has all rows that hold up to one.
func isEarned(b api.Badge, rows []api.Row) bool {
	switch b.Kind {
	case api.BadgeMany:
		return len(rows) >= b.N
	case api.BadgeSum:
		return slowTold(api.Tell{Kind: api.TellSum, Field: b.Field}, rows).Num >= b.N
	case api.BadgeMost:
		return slowTold(api.Tell{Kind: api.TellMost, Field: b.Field}, rows).Num >= b.N
	}
	last := rows[len(rows)-1].Start / 86400
	for day := last; day > last-b.N; day-- {
		if !slices.ContainsFunc(rows, func(r api.Row) bool { return r.Start/86400 == day }) {
			return false
		}
	}
	return true
}

func randomBadges(r *rand.Rand, most int) []api.Badge {
	var l []api.Badge
	for _, i := range r.Perm(most)[:r.Intn(most+1)] {
		l = append(l, randomBadge(r, fmt.Sprint("b", i)))
	}
	return l
}

func TestL6Random(t *testing.T) {
	r := rand.New(rand.NewSource(127))
	many := map[int]int{}
	for range 6000 {
		b, l := randomBadges(r, 6), randomRows(r, 15)
		wanted := slowEarned(b, l)
		many[len(wanted)]++
		want(t, fmt.Sprint(b, l), told(ask.Badges(b, l)), told(wanted, 0))
	}
	if many[0] < 100 || many[3] < 100 {
		t.Error("not often: ", many)
	}
}

// TestL6Great has as many rows as can be, with numbers as great as can be.
func TestL6Great(t *testing.T) {
	l := numbered(5000)
	for i := range l {
		l[i].Start, l[i].Way = i*api.DayLong, 1e13
	}
	for _, c := range []struct {
		b    api.Badge
		want string
	}{
		{badge(1, 0, 5000), "[{b r4999 431913600}] 0"}, {badge(1, 0, 5001), "[] 0"}, {badge(2, 3, 1e13), "[{b r0 0}] 0"}, {badge(3, 3, 1e13), "[{b r0 0}] 0"}, {badge(4, 0, 5000), "[{b r4999 431913600}] 0"}, {badge(4, 0, 5001), "[] 0"}, {badge(4, 0, 1e13), "[] 0"},
	} {
		want(t, fmt.Sprint(c.b), told(ask.Badges([]api.Badge{c.b}, l)), c.want)
	}
}
