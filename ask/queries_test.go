package ask_test

import (
	"fmt"
	"maps"
	"math/big"
	"math/rand"
	"slices"
	"testing"

	"harrier/api"
	"harrier/ask"
)

func tells(l ...int) []api.Tell {
	var list []api.Tell
	for i := 1; i < len(l); i += 2 {
		list = append(list, api.Tell{Kind: l[i-1], Field: l[i]})
	}
	return list
}

func TestL3CheckQuery(t *testing.T) {
	for _, c := range []struct {
		what string
		q    api.Query
		want string
	}{
		{"right", api.Query{Where: allOf(), Tells: tells(1, 0)}, "0"},
		{"nothing", api.Query{}, "7"},
		{"a wrong condition, and all else", api.Query{Where: has(""), Group: 9}, "2"},
		{"Group below", api.Query{Where: allOf(), Group: -1, Tells: tells(1, 0)}, "7"},
		{"Group above", api.Query{Where: allOf(), Group: 5, Tells: tells(1, 0)}, "7"},
		{"Group above, without Tells", api.Query{Where: allOf(), Group: 5}, "7"},
		{"no Tells", api.Query{Where: allOf(), Group: 4}, "13"},
		{"Tells of no length", api.Query{Where: allOf(), Tells: []api.Tell{}}, "13"},
		{"as many as can be", api.Query{Where: allOf(), Tells: tells(1, 0, 2, 1, 3, 1, 4, 1, 5, 1, 5, 7, 4, 7, 3, 7, 2, 7, 1, 0)}, "0"},
		{"one more", api.Query{Where: allOf(), Tells: tells(1, 0, 2, 1, 3, 1, 4, 1, 5, 1, 5, 7, 4, 7, 3, 7, 2, 7, 1, 0, 1, 0)}, "3"},
		{"too many, all wrong", api.Query{Where: allOf(), Tells: make([]api.Tell, 11)}, "3"},
		{"no kind", api.Query{Where: allOf(), Tells: tells(0, 0)}, "7"},
		{"no such kind", api.Query{Where: allOf(), Tells: tells(6, 1)}, "7"},
		{"a kind below", api.Query{Where: allOf(), Tells: tells(-1, 1)}, "7"},
		{"many of a field", api.Query{Where: allOf(), Tells: tells(1, 1)}, "7"},
		{"the second one", api.Query{Where: allOf(), Tells: tells(1, 0, 1, 3)}, "7"},
	} {
		want(t, c.what, told(ask.CheckQuery(c.q)), c.want)
		_, e := ask.Answer(c.q, nil)
		want(t, c.what+", Answer", told(e), c.want)
		if c.want != "0" {
			want(t, c.what+", Answer of wrong rows", told(ask.Answer(c.q, []api.Row{{}})), "[] "+c.want)
			want(t, c.what+", Print", told(ask.PrintQuery(c.q)), " "+c.want)
		}
	}
	for group := range 5 {
		want(t, "groups", told(ask.CheckQuery(api.Query{Where: allOf(), Group: group, Tells: tells(1, 0)})), "0")
	}
	for kind := 2; kind <= 5; kind++ {
		for _, n := range []int{-1, 0, 1, 7, 8} {
			wanted := "7"
			if n == 1 || n == 7 {
				wanted = "0"
			}
			want(t, fmt.Sprint("kind ", kind, " of ", n), told(ask.CheckQuery(api.Query{Where: allOf(), Tells: tells(kind, n)})), wanted)
		}
	}
}

func TestL3Answer(t *testing.T) {
	rows := []api.Row{
		{Name: "c", Sport: api.Ride, Start: 8*api.DayLong + 7, Way: 50, Tags: []string{"y"}},
		{Name: "a", Sport: api.Run, Start: 5, Way: 100, Tags: []string{"x"}},
		{Name: "d", Sport: api.Run, Start: 13 * api.DayLong, Way: 25},
		{Name: "b", Sport: api.Ride, Start: api.DayLong - 1, Way: 300, Tags: []string{"x", "y"}},
	}
	for _, c := range []struct{ text, want string }{
		{"many", "[{0  [{4 1}]}] 0"},
		{"many, sum way, least way, most way, mean way", "[{0  [{4 1} {475 1} {25 1} {300 1} {475 4}]}] 0"},
		{"mean way where run", "[{0  [{125 2}]}] 0"},
		{"mean way where ride", "[{0  [{175 1}]}] 0"},
		{"mean load", "[{0  [{0 1}]}] 0"},
		{"many where swim", "[] 0"},
		{"many where swim by day", "[] 0"},
		{"many, sum way by day", "[{0  [{2 1} {400 1}]} {8  [{1 1} {50 1}]} {13  [{1 1} {25 1}]}] 0"},
		{"many, least start by week", "[{0  [{2 1} {5 1}]} {7  [{2 1} {691207 1}]}] 0"},
		{"many, sum way by sport", "[{1  [{2 1} {125 1}]} {2  [{2 1} {350 1}]}] 0"},
		{"many, sum way by tag", "[{0 x [{2 1} {400 1}]} {0 y [{2 1} {350 1}]}] 0"},
		{"many where not #x by tag", "[{0 y [{1 1}]}] 0"},
		{"many where #x by tag", "[{0 x [{2 1}]} {0 y [{1 1}]}] 0"},
		{"sum weekday, most day, mean weekday", "[{0  [{7 1} {13 1} {7 4}]}] 0"},
		{"many, many", "[{0  [{4 1} {4 1}]}] 0"},
	} {
		q, _, e := ask.ReadQuery(c.text)
		want(t, c.text, told(e), "0")
		want(t, c.text, told(ask.Answer(q, rows)), c.want)
		want(t, c.text+", of nothing", told(ask.Answer(q, nil)), "[] 0")
	}
}

// slowAnswer makes groups by what they are called: numbers are written so that their order is that of texts.
func slowAnswer(q api.Query, l []api.Row) []api.Group {
	rows := map[string][]api.Row{}
	numbers, texts := map[string]int{}, map[string]string{}
	put := func(r api.Row, number int, text string) {
		name := fmt.Sprintf("%09d%s", number, text)
		rows[name], numbers[name], texts[name] = append(rows[name], r), number, text
	}
	for _, r := range l {
		if !slowHolds(q.Where, r) {
			continue
		}
		day := r.Start / 86400
		switch q.Group {
		case api.GroupNone:
			put(r, 0, "")
		case api.GroupDay:
			put(r, day, "")
		case api.GroupWeek:
			for day%7 != 0 {
				day--
			}
			put(r, day, "")
		case api.GroupSport:
			put(r, r.Sport, "")
		case api.GroupTag:
			for _, tag := range r.Tags {
				put(r, 0, tag)
			}
		}
	}
	var groups []api.Group
	for _, name := range slices.Sorted(maps.Keys(rows)) {
		g := api.Group{Number: numbers[name], Text: texts[name]}
		for _, x := range q.Tells {
			g.Told = append(g.Told, slowTold(x, rows[name]))
		}
		groups = append(groups, g)
	}
	return groups
}

func slowTold(x api.Tell, l []api.Row) api.Ratio {
	var list []int
	sum := big.NewInt(0)
	for _, r := range l {
		day := r.Start / 86400
		n := []int{0, r.Start, day, r.Way, r.Climb, r.Seconds, r.Load, day % 7}[x.Field]
		list = append(list, n)
		sum.Add(sum, big.NewInt(int64(n)))
	}
	slices.Sort(list)
	count := big.NewInt(int64(len(l)))
	ratio := map[int]*big.Rat{
		api.TellMany:  new(big.Rat).SetInt(count),
		api.TellSum:   new(big.Rat).SetInt(sum),
		api.TellLeast: new(big.Rat).SetInt64(int64(list[0])),
		api.TellMost:  new(big.Rat).SetInt64(int64(list[len(list)-1])),
		api.TellMean:  new(big.Rat).SetFrac(sum, count),
	}[x.Kind]
	return api.Ratio{Num: int(ratio.Num().Int64()), Den: int(ratio.Denom().Int64())}
}

func TestL3Random(t *testing.T) {
	r := rand.New(rand.NewSource(126))
	for range 6000 {
		q, l := randomQuery(r), randomRows(r, 12)
		want(t, fmt.Sprint(told(q), l), told(ask.Answer(q, l)), told(slowAnswer(q, l), 0))
		r.Shuffle(len(l), func(i, j int) { l[i], l[j] = l[j], l[i] })
		want(t, fmt.Sprint(told(q), l), told(ask.Answer(q, l)), told(slowAnswer(q, l), 0))
	}
}

// TestL3Great has as many rows as can be, with numbers as great as can be.
func TestL3Great(t *testing.T) {
	l := numbered(5000)
	for i := range l {
		l[i].Load, l[i].Start = 1e13-i%2, api.MaxMoment
	}
	q := api.Query{Where: allOf(), Group: api.GroupWeek, Tells: tells(1, 0, 2, 6, 3, 6, 4, 6, 5, 6, 2, 1)}
	want(t, "as great as can be", told(ask.Answer(q, l)), "[{999999  [{5000 1} {49999999999997500 1} {9999999999999 1} {10000000000000 1} {19999999999999 2} {431999999995000 1}]}] 0")
}
