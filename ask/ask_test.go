package ask_test

import (
	"fmt"
	"math"
	"math/rand"
	"reflect"
	"strings"
	"testing"

	"harrier/api"
	"harrier/ask"
)

// told writes results with spaces between; codes of errors as numbers, and conditions with all their parts.
func told(l ...any) string {
	for i, x := range l {
		switch x := x.(type) {
		case api.Errno:
			l[i] = int(x)
		case api.Cond:
			l[i] = show(x)
		case api.Query:
			l[i] = fmt.Sprint(show(x.Where), x.Group, x.Tells)
		}
	}
	return strings.TrimSuffix(fmt.Sprintln(l...), "\n")
}

// show writes a condition with all its parts.
func show(c api.Cond) string {
	s := fmt.Sprintf("{%d %d %d %d %q", c.Kind, c.Field, c.Low, c.High, c.Text)
	for _, x := range c.Kids {
		s += " " + show(x)
	}
	return s + "}"
}

func want(t *testing.T, what, got, wanted string) {
	t.Helper()
	if got != wanted {
		t.Errorf("%s: got %q, want %q", what, got, wanted)
	}
}

func one[T any](r *rand.Rand, l ...T) T { return l[r.Intn(len(l))] }

// many makes a list of so many elements.
func many[T any](n int, make func(i int) T) (l []T) {
	for i := range n {
		l = append(l, make(i))
	}
	return l
}

// wantOften asks whether random tests met each of some errors.
func wantOften(t *testing.T, seen map[api.Errno]int, l ...api.Errno) {
	t.Helper()
	for _, e := range l {
		if seen[e] < 20 {
			t.Errorf("error %d was met %d times", e, seen[e])
		}
	}
}

func allOf(l ...api.Cond) api.Cond { return api.Cond{Kind: api.CondAll, Kids: l} }

func anyOf(l ...api.Cond) api.Cond { return api.Cond{Kind: api.CondAny, Kids: l} }

func not(c api.Cond) api.Cond { return api.Cond{Kind: api.CondNot, Kids: []api.Cond{c}} }

func sport(n int) api.Cond { return api.Cond{Kind: api.CondSport, Low: n} }

func tag(s string) api.Cond { return api.Cond{Kind: api.CondTag, Text: s} }

func has(s string) api.Cond { return api.Cond{Kind: api.CondHas, Text: s} }

func field(n, low, high int) api.Cond {
	return api.Cond{Kind: api.CondField, Field: n, Low: low, High: high}
}

// nested stands so many levels within others.
func nested(levels int, c api.Cond) api.Cond {
	for range levels {
		c = not(c)
	}
	return c
}

// row makes a row of a run with nothing but a name and a start.
func row(name string, start int, tags ...string) api.Row {
	return api.Row{Name: name, Sport: api.Run, Start: start, Tags: tags}
}

// numbered makes so many rows, each a second behind the one before.
func numbered(n int) []api.Row {
	return many(n, func(i int) api.Row { return row(fmt.Sprint("r", i), i) })
}

// full is a row that has something of all kinds.
func full() api.Row {
	return api.Row{Name: "full", Sport: api.Ski, Start: 9*api.DayLong + 5, Way: 100, Climb: 20, Seconds: 300, Load: 40, Tags: []string{"a", "b"}}
}

// randomCond makes a condition that is right.
func randomCond(r *rand.Rand, levels int) api.Cond {
	kind := 1 + r.Intn(10)
	if levels == 0 {
		kind = 4 + r.Intn(4)
	}
	switch kind {
	case api.CondSport:
		return sport(1 + r.Intn(5))
	case api.CondTag:
		return tag(one(r, "a", "b", "a.b", "and", "-", "7", "..", "x_y"))
	case api.CondHas:
		return has(one(r, "a", "b", " ", `"`, `\`, `\"`, "a b", "-", "12", " and ", ")", strings.Repeat(`"`, 60)))
	case api.CondField:
		return randomField(r)
	case api.CondNot:
		return not(randomCond(r, levels-1))
	}
	kids := many(r.Intn(1+r.Intn(4)), func(int) api.Cond { return randomCond(r, levels-1) })
	return api.Cond{Kind: 1 + r.Intn(2), Kids: kids}
}

// randomField asks for a number that rows of randomRow often have, or nearly.
func randomField(r *rand.Rand) api.Cond {
	low := one(r, -1_000_000_000_000_000, -5, 0, 0, 1, 2, 3, 5, api.DayLong, 2*api.DayLong+1, r.Intn(1000))
	high := low + one(r, 0, 1, 2, 5, api.DayLong-1, 1_000_000)
	return field(1+r.Intn(7), low, one(r, high, high, 1_000_000_000_000_000))
}

func randomRow(r *rand.Rand, name string) api.Row {
	x := row(name, r.Intn(12)*api.DayLong+one(r, 0, 1, 5, api.DayLong-1))
	x.Sport = 1 + r.Intn(5)
	x.Way, x.Climb, x.Seconds, x.Load = one(r, 0, 1, 5, r.Intn(1000)), r.Intn(6), r.Intn(10), one(r, 0, 3, 1_000_000)
	for _, tag := range []string{"-", "7", "a", "a.b", "b"} {
		if r.Intn(3) == 0 {
			x.Tags = append(x.Tags, tag)
		}
	}
	return x
}

// randomRows makes rows with different names.
func randomRows(r *rand.Rand, most int) []api.Row {
	var l []api.Row
	for _, i := range r.Perm(most)[:r.Intn(most+1)] {
		l = append(l, randomRow(r, one(r, "a", "b-", "a12")+fmt.Sprint(i)))
	}
	return l
}

func randomQuery(r *rand.Rand) api.Query {
	q := api.Query{Where: allOf(), Group: r.Intn(5)}
	if r.Intn(3) > 0 {
		q.Where = randomCond(r, r.Intn(4))
	}
	for range 1 + r.Intn(4) {
		x := api.Tell{Kind: 1 + r.Intn(5)}
		if x.Kind != api.TellMany {
			x.Field = 1 + r.Intn(7)
		}
		q.Tells = append(q.Tells, x)
	}
	return q
}

func randomBadge(r *rand.Rand, name string) api.Badge {
	b := api.Badge{Name: name, Kind: 1 + r.Intn(4), N: 1 + r.Intn(4), Where: allOf()}
	if b.Kind == api.BadgeSum || b.Kind == api.BadgeMost {
		b.Field = 1 + r.Intn(7)
		b.N = one(r, 1, 2, 5, 10, 500, 3*api.DayLong, 20*api.DayLong)
	}
	if r.Intn(2) == 0 {
		b.Where = randomCond(r, r.Intn(3))
	}
	return b
}

func TestLimits(t *testing.T) {
	want(t, "limits", told(ask.MaxRows, ask.MaxParts, ask.MaxLevels, ask.MaxTells, ask.MaxBadges, ask.MaxText), "5000 100 20 10 50 10000")
}

func roomy[T any](l []T) []T { return append(make([]T, 0, len(l)+9), l...) }

func roomyCond(c api.Cond) api.Cond {
	c.Kids = roomy(c.Kids)
	for i, x := range c.Kids {
		c.Kids[i] = roomyCond(x)
	}
	return c
}

// given has arguments, with room behind their elements.
type given struct {
	A      api.Activity
	Row    api.Row
	Query  api.Query
	Rows   []api.Row
	Badges []api.Badge
}

func newGiven() *given {
	x := &given{
		A:      api.Activity{Name: "a", Sport: api.Run, Samples: roomy([]api.Sample{{}, {At: 5, X: 9}}), Laps: roomy([]api.Lap{{To: 5}}), Tags: roomy([]string{"a", "b"})},
		Row:    full(),
		Query:  api.Query{Where: allOf(anyOf(tag("a"), not(not(tag("y")))), not(allOf(anyOf()))), Group: api.GroupTag, Tells: roomy([]api.Tell{{Kind: 1}, {Kind: 2, Field: 3}})},
		Rows:   []api.Row{row("c", 100, "x", "y"), full(), row("b", 100, "x"), row("a", 7)},
		Badges: []api.Badge{{Name: "one", Kind: 1, N: 1, Where: anyOf(anyOf(), not(tag("x")))}, {Name: "tag", Kind: 1, N: 2, Where: not(not(tag("x")))}, {Name: "never", Kind: 1, N: 9, Where: allOf()}},
	}
	x.Row.Tags, x.Query.Where, x.Rows, x.Badges = roomy(x.Row.Tags), roomyCond(x.Query.Where), roomy(x.Rows), roomy(x.Badges)
	for i := range x.Rows {
		x.Rows[i].Tags = roomy(x.Rows[i].Tags)
	}
	for i := range x.Badges {
		x.Badges[i].Where = roomyCond(x.Badges[i].Where)
	}
	return x
}

// whole writes a value with all that lists have behind their ends.
func whole(v reflect.Value) string {
	s := ""
	switch v.Kind() {
	case reflect.Struct:
		for i := range v.NumField() {
			s += whole(v.Field(i)) + ";"
		}
		return s
	case reflect.Slice:
		for i := range v.Cap() {
			s += whole(v.Slice3(0, v.Cap(), v.Cap()).Index(i)) + ","
		}
		return fmt.Sprint(v.Len(), "[", s, "]")
	}
	return fmt.Sprint(v)
}

// scribble writes over all memory that the lists of a value have, also over their unused capacity.
func scribble(v reflect.Value) {
	switch v.Kind() {
	case reflect.Struct:
		for i := range v.NumField() {
			scribble(v.Field(i))
		}
	case reflect.Slice:
		v = v.Slice3(0, v.Cap(), v.Cap())
		for i := range v.Len() {
			scribble(v.Index(i))
			v.Index(i).SetZero()
		}
	}
}

// results has what the functions return that return lists.
func (x *given) results() map[string]any {
	l := map[string]any{}
	l["RowOf"], _ = ask.RowOf(x.A, 5)
	l["Answer"], _ = ask.Answer(x.Query, x.Rows)
	l["Badges"], _ = ask.Badges(x.Badges, x.Rows)
	text, _ := ask.PrintQuery(x.Query)
	l["ReadQuery"], _, _ = ask.ReadQuery(text)
	text, _ = ask.PrintCond(x.Query.Where)
	l["ReadCond"], _, _ = ask.ReadCond(text)
	return l
}

// useAll calls what returns no lists.
func (x *given) useAll() {
	ask.CheckRow(x.Row)
	ask.CheckQuery(x.Query)
	ask.CheckBadge(x.Badges[0])
	ask.CheckCond(x.Query.Where)
	ask.Holds(x.Query.Where, x.Row)
	ask.Never(x.Query.Where)
}

// TestL1OwnMemory asks whether arguments stay as they are, and whether results have memory of their own (Z2).
func TestL1OwnMemory(t *testing.T) {
	x := newGiven()
	x.useAll()
	first := x.results()
	known := map[string]string{}
	for name, result := range first {
		known[name] = fmt.Sprint(result)
		if reflect.ValueOf(result).IsZero() {
			t.Errorf("%s: nothing comes of it", name)
		}
	}
	for _, result := range x.results() {
		scribble(reflect.ValueOf(result))
	}
	want(t, "the arguments", whole(reflect.ValueOf(*x)), whole(reflect.ValueOf(*newGiven())))
	for name, result := range first {
		want(t, name+" once more", fmt.Sprint(result), known[name])
	}
}

// TestL2NoEnd has a condition that has itself as its Kid.
func TestL2NoEnd(t *testing.T) {
	kids := []api.Cond{allOf()}
	kids[0].Kids = kids
	want(t, "CheckCond", told(ask.CheckCond(kids[0])), "3")
	want(t, "Never", told(ask.Never(kids[0])), "false 3")
	want(t, "PrintCond", told(ask.PrintCond(kids[0])), " 3")
}

// hard has numbers at which a program that does not look out goes wrong.
var hard = []int{math.MinInt, math.MinInt + 1, -1 << 62, -1, 0, 1, 7, 1 << 62, math.MaxInt - 1, math.MaxInt}

// TestL2AnyNumbers calls all functions with numbers far out of their ranges (Z1).
func TestL2AnyNumbers(t *testing.T) {
	r := rand.New(rand.NewSource(120))
	for range 20000 {
		c := api.Cond{Kind: one(r, hard...), Field: one(r, hard...), Low: one(r, hard...), High: one(r, hard...)}
		if r.Intn(2) == 0 {
			c = field(1+r.Intn(7), c.Low, c.High)
		}
		x := api.Row{Name: "a", Sport: one(r, hard...), Start: one(r, hard...), Way: one(r, hard...), Climb: one(r, hard...), Seconds: one(r, hard...), Load: one(r, hard...)}
		q := api.Query{Where: c, Group: one(r, hard...), Tells: []api.Tell{{Kind: one(r, hard...), Field: one(r, hard...)}}}
		b := api.Badge{Name: "a", Kind: one(r, hard...), Field: one(r, hard...), N: one(r, hard...), Where: c}
		ask.CheckRow(x)
		ask.RowOf(api.Activity{Name: "a", Sport: 1}, x.Load)
		ask.Holds(c, x)
		ask.Never(c)
		ask.PrintCond(c)
		ask.Answer(q, []api.Row{x})
		ask.PrintQuery(q)
		ask.Badges([]api.Badge{b}, []api.Row{x})
		l := ask.NewLog()
		l.Put(x)
		l.Watch("a", q)
		l.SetBadges([]api.Badge{b})
		l.Earned()
	}
}
