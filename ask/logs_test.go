package ask_test

import (
	"fmt"
	"maps"
	"math/rand"
	"reflect"
	"slices"
	"strings"
	"testing"

	"harrier/api"
	"harrier/ask"
)

func query(t *testing.T, text string) api.Query {
	t.Helper()
	q, at, e := ask.ReadQuery(text)
	want(t, text, told(at, e), "0 0")
	return q
}

func logOf(t *testing.T, rows ...api.Row) *ask.Log {
	t.Helper()
	l := ask.NewLog()
	if l == nil {
		t.Fatal("no log")
	}
	for _, r := range rows {
		want(t, "Put "+r.Name, told(l.Put(r)), "0")
	}
	return l
}

func TestL7Rows(t *testing.T) {
	l := logOf(t)
	want(t, "a new one", told(l.Rows(), l.Changed(), l.Earned(), l.Remove("a")), "[] [] [] 4")
	l = logOf(t, row("b", 5, "x"), row("c", 0), row("a", 5), row("d", 7))
	want(t, "in order", told(l.Rows()), "[{c 1 0 0 0 0 0 []} {a 1 5 0 0 0 0 []} {b 1 5 0 0 0 0 [x]} {d 1 7 0 0 0 0 []}]")
	want(t, "another one in its place", told(l.Put(row("a", 9, "y")), l.Rows()), "0 [{c 1 0 0 0 0 0 []} {b 1 5 0 0 0 0 [x]} {d 1 7 0 0 0 0 []} {a 1 9 0 0 0 0 [y]}]")
	want(t, "a wrong one", told(l.Put(row("a", -1)), l.Put(row("", 5)), l.Put(row("e", 5, "b", "a")), len(l.Rows())), "9 8 10 4")
	want(t, "Remove", told(l.Remove("b"), l.Remove("b"), l.Remove("B"), l.Remove(""), l.Rows()), "0 4 4 4 [{c 1 0 0 0 0 0 []} {d 1 7 0 0 0 0 []} {a 1 9 0 0 0 0 [y]}]")
	want(t, "one that was taken away", told(l.Put(row("b", 1)), len(l.Rows())), "0 4")
}

func TestL7Many(t *testing.T) {
	l := logOf(t, numbered(5000)...)
	want(t, "one more", told(l.Put(row("a", 1)), len(l.Rows())), "3 5000")
	want(t, "one more that is wrong", told(l.Put(row("a", -1))), "9")
	want(t, "in the place of another one", told(l.Put(row("r7", 9999)), len(l.Rows()), l.Rows()[4999].Name), "0 5000 r7")
	want(t, "one less", told(l.Remove("r7"), l.Put(row("a", 1)), l.Put(row("r7", 1)), len(l.Rows())), "0 0 3 5000")
}

func TestL7Watch(t *testing.T) {
	l := logOf(t, row("a", 5))
	many := query(t, "many")
	bad := api.Query{Where: allOf()}
	for _, c := range []struct {
		what, name string
		q          api.Query
		want       string
	}{
		{"no name", "", bad, "8"}, {"a blank", "a b", many, "8"}, {"a long name", strings.Repeat("a", 61), many, "8"}, {"a wrong query", "w", bad, "13"}, {"a wrong condition", "w", api.Query{Where: has("")}, "2"},
		{"right", "w", many, "0"}, {"once more", "w", many, "5"}, {"once more, and a wrong query", "w", bad, "13"}, {"a name as long as can be", strings.Repeat("a", 60), many, "0"},
	} {
		want(t, c.what, told(l.Watch(c.name, c.q)), c.want)
	}
	for i := range 48 {
		want(t, "Watch", told(l.Watch(fmt.Sprint("w", i), many)), "0")
	}
	want(t, "one more", told(l.Watch("x", many), l.Watch("w", many), l.Watch("x", bad), l.Watch("", many)), "3 5 13 8")
	want(t, "Report", told(l.Report("w")), "[{0  [{1 1}]}] 0")
	want(t, "Answer", told(l.Answer(many)), "[{0  [{1 1}]}] 0")
	want(t, "Answer of a wrong query", told(l.Answer(bad)), "[] 13")
	want(t, "no report", told(l.Report("x")), "[] 4")
	want(t, "no name", told(l.Report("")), "[] 4")
	l.Put(row("b", 6))
	changed := l.Changed()
	want(t, "Changed", told(len(changed), changed[0] == strings.Repeat("a", 60), changed[1], changed[2], changed[3], changed[49]), "50 true w w0 w1 w9")
}

func TestL7Changed(t *testing.T) {
	l := logOf(t, row("a", 5, "x"))
	for name, text := range map[string]string{"rides": "many where ride", "ways": "sum way by day", "all": "many", "tags": "many by tag", "mean": "mean way"} {
		want(t, name, told(l.Watch(name, query(t, text))), "0")
	}
	steps := []struct {
		what string
		do   func()
		want string
	}{
		{"nothing", func() {}, "[]"},
		{"a run more", func() { l.Put(row("b", 9)) }, "[all]"},
		{"nothing more", func() {}, "[]"},
		{"a tag more", func() { l.Put(row("b", 9, "x")) }, "[tags]"},
		{"another name", func() { l.Remove("b"); l.Put(row("c", 9, "x")) }, "[]"},
		{"another day", func() { l.Put(row("c", api.DayLong, "x")) }, "[ways]"},
		{"come and gone", func() { l.Put(row("d", 5, "y")); l.Remove("d") }, "[]"},
		{"errors", func() { l.Put(row("d", -1)); l.Remove("d"); l.Watch("all", query(t, "many where ride")) }, "[]"},
		{"another tag", func() { l.Put(row("c", api.DayLong, "y")) }, "[tags]"},
		{"a ride with a way", func() { r := row("r", 7, "x"); r.Sport, r.Way = 2, 90; l.Put(r) }, "[all mean rides tags ways]"},
		{"another way", func() { r := row("r", 7, "x"); r.Sport, r.Way = 2, 91; l.Put(r) }, "[mean ways]"},
		{"a new report", func() { l.Watch("new", query(t, "many where #y")) }, "[]"},
		{"a new report, and a row behind it", func() { l.Watch("newer", query(t, "many where #y")); l.Put(row("z", 7, "y")) }, "[all mean new newer tags]"},
		{"none at all", func() {
			for _, r := range l.Rows() {
				l.Remove(r.Name)
			}
		}, "[all mean new newer rides tags ways]"},
		{"none, still", func() { l.Report("all"); l.Earned() }, "[]"},
	}
	for _, s := range steps {
		s.do()
		l.Report("all")
		want(t, s.what, told(l.Changed()), s.want)
	}
}

func TestL7Badges(t *testing.T) {
	l := logOf(t, row("a", 5), row("b", 9))
	want(t, "no badges", told(l.Earned()), "[]")
	want(t, "two badges", told(l.SetBadges([]api.Badge{{Name: "one", Kind: 1, N: 1, Where: allOf()}, {Name: "two", Kind: 1, N: 2, Where: allOf()}}), l.Earned()), "0 [{one a 5} {two b 9}]")
	want(t, "an error changes nothing", told(l.SetBadges(namedBadges(51)), l.SetBadges(make([]api.Badge, 1)), l.Earned()), "3 8 [{one a 5} {two b 9}]")
	want(t, "another row", told(l.Put(row("0", 5)), l.Earned()), "0 [{one 0 5} {two a 5}]")
	want(t, "rows that went", told(l.Remove("0"), l.Remove("b"), l.Earned()), "0 0 [{one a 5}]")
	want(t, "other badges", told(l.SetBadges(namedBadges(1)), l.Earned()), "0 [{b0 a 5}]")
	want(t, "none", told(l.SetBadges(nil), l.Earned()), "0 []")
	want(t, "more badges than reports", told(l.SetBadges(namedBadges(50)), len(l.Earned()), l.Watch("w", query(t, "many"))), "0 50 0")
}

// A slowLog has its rows in a list, and what was answered as texts.
type slowLog struct {
	rows    []api.Row
	queries map[string]api.Query
	seen    map[string]string
	badges  []api.Badge
}

func (s *slowLog) put(r api.Row) {
	s.remove(r.Name)
	s.rows = append(s.rows, r)
}

func (s *slowLog) remove(name string) bool {
	many := len(s.rows)
	s.rows = slices.DeleteFunc(slices.Clone(s.rows), func(x api.Row) bool { return x.Name == name })
	return len(s.rows) < many
}

func (s *slowLog) changed() []string {
	var l []string
	for _, name := range slices.Sorted(maps.Keys(s.queries)) {
		now := fmt.Sprint(slowAnswer(s.queries[name], s.rows))
		if now != s.seen[name] {
			l = append(l, name)
		}
		s.seen[name] = now
	}
	return l
}

// step does one thing with both logs.
func (s *slowLog) step(t *testing.T, r *rand.Rand, l *ask.Log) {
	name := one(r, "a", "b", "c", "d", "e", "f")
	q := randomQuery(r)
	switch r.Intn(9) {
	case 0, 1, 2:
		x := randomRow(r, name)
		want(t, "Put", told(l.Put(x)), "0")
		s.put(x)
	case 3:
		want(t, "Remove", told(l.Remove(name) == api.OK), told(s.remove(name)))
	case 4:
		want(t, "Answer", told(l.Answer(q)), told(slowAnswer(q, s.rows), 0))
	case 5:
		_, is := s.queries[name]
		want(t, "Watch", told(l.Watch(name, q) == api.ErrTwice), told(is))
		if !is {
			s.queries[name], s.seen[name] = q, fmt.Sprint(slowAnswer(q, s.rows))
		}
	case 6:
		want(t, "Changed", told(l.Changed()), told(s.changed()))
	case 7:
		got, e := l.Report(name)
		if q, is := s.queries[name]; is {
			want(t, "Report", told(got, e), told(slowAnswer(q, s.rows), 0))
		} else {
			want(t, "no report", told(got, e), "[] 4")
		}
	case 8:
		if r.Intn(4) == 0 {
			s.badges = randomBadges(r, 4)
			want(t, "SetBadges", told(l.SetBadges(s.badges)), "0")
		}
		want(t, "Earned", told(l.Earned()), told(slowEarned(s.badges, s.rows)))
	}
}

func TestL7Random(t *testing.T) {
	r := rand.New(rand.NewSource(128))
	for range 300 {
		l, s := ask.NewLog(), &slowLog{queries: map[string]api.Query{}, seen: map[string]string{}}
		for range 60 {
			s.step(t, r, l)
		}
		// Another one in which the same rows come in another way tells the same.
		other := ask.NewLog()
		for _, i := range r.Perm(len(s.rows)) {
			other.Put(randomRow(r, s.rows[i].Name))
			other.Put(randomRow(r, "other"))
			other.Put(s.rows[i])
		}
		other.Remove("other")
		other.SetBadges(s.badges)
		want(t, "in another order", told(other.Rows(), other.Earned()), told(l.Rows(), l.Earned()))
		for name, q := range s.queries {
			now, _ := l.Report(name)
			want(t, "in another order", told(other.Answer(q)), told(now, 0))
		}
	}
}

// TestL7OwnMemory writes over all that a log was given, and over all that it returned (Z2).
func TestL7OwnMemory(t *testing.T) {
	x := newGiven()
	l := logOf(t, x.Rows...)
	want(t, "Watch", told(l.Watch("w", x.Query), l.SetBadges(x.Badges)), "0 0")
	known := told(l.Rows(), l.Earned()) + told(l.Report("w")) + told(l.Answer(newGiven().Query))
	want(t, "the arguments", whole(reflect.ValueOf(*x)), whole(reflect.ValueOf(*newGiven())))
	scribble(reflect.ValueOf(*x))
	for range 2 {
		want(t, "once more", told(l.Rows(), l.Earned())+told(l.Report("w"))+told(l.Answer(newGiven().Query)), known)
		want(t, "Changed", told(l.Changed()), "[]")
		scribble(reflect.ValueOf(l.Rows()))
		scribble(reflect.ValueOf(l.Earned()))
		groups, _ := l.Report("w")
		scribble(reflect.ValueOf(groups))
		groups, _ = l.Answer(newGiven().Query)
		scribble(reflect.ValueOf(groups))
	}
	l.Put(row("new", 5, "y"))
	scribble(reflect.ValueOf(l.Changed()))
	want(t, "Changed", told(l.Changed(), l.Remove("new"), l.Changed()), "[] 0 [w]")
}

// TestL7Two asks whether logs leave each other alone.
func TestL7Two(t *testing.T) {
	l, other := logOf(t, row("a", 5)), logOf(t)
	l.Watch("w", query(t, "many"))
	l.SetBadges(namedBadges(1))
	want(t, "the other one", told(other.Rows(), other.Earned(), other.Changed(), other.Watch("w", query(t, "sum way"))), "[] [] [] 0")
	want(t, "the first one", told(l.Report("w")), "[{0  [{1 1}]}] 0")
}
