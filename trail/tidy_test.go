package trail_test

import (
	"fmt"
	"math/rand"
	"slices"
	"strings"
	"testing"

	"harrier/api"
	"harrier/record"
	"harrier/trail"
)

// linesOf writes edits as Print does, but with commas between; of wrong ones it tells so.
func linesOf(l []api.Edit) string {
	s, e := trail.Print(l)
	if e != api.OK {
		return told("wrong", e)
	}
	return strings.ReplaceAll(strings.TrimSuffix(s, "\n"), "\n", ", ")
}

// editsOf reads edits with commas between.
func editsOf(t *testing.T, s string) []api.Edit {
	t.Helper()
	l, line, e := trail.Read(strings.ReplaceAll(s, ", ", "\n") + "\n")
	if e != api.OK {
		t.Fatal(s, line, e)
	}
	return l
}

func TestK3Tidy(t *testing.T) {
	for _, c := range [][2]string{
		{"raise 5, tag x, shift 10, raise -5, untag x, shift 20", "shift 30"},
		// What says nothing.
		{"shift 0", ""}, {"raise 0", ""}, {"level 0", ""}, {"crop 1 2, level 0, crop 1 2, shift 0, raise 0", "crop 1 2, crop 1 2"},
		{"fill 0, unlap 0", "fill 0, unlap 0"}, {"level 1", "level 1"},
		// The second one of two.
		{"name a, name b", "name b"}, {"name b, name a, name a", "name a"}, {"sport 1, sport 2", "sport 2"}, {"sport 3, sport 2, sport 5", "sport 5"},
		{"field 1, field 1", "field 1"}, {"field 2, field 1, field 2", "field 1, field 2"}, {"field 3, field 1, field 2, field 1", "field 1, field 2, field 3"},
		// The sum of two.
		{"shift 1, shift 2", "shift 3"}, {"raise 1, raise 2, raise 4", "raise 7"}, {"shift 5, shift -5", ""}, {"raise 5, raise -5, raise 1", "raise 1"}, {"shift -5, raise 2, shift -6", "shift -11, raise 2"},
		{"shift 86399999999, shift 1", "shift 86399999999, shift 1"}, {"shift 86399999998, shift 1", "shift 86399999999"},
		{"shift -86399999999, shift -1", "shift -86399999999, shift -1"}, {"shift 86399999999, shift -86399999999", ""},
		{"raise 200000, raise 1", "raise 200000, raise 1"}, {"raise 199999, raise 1", "raise 200000"}, {"raise -200000, raise -1", "raise -200000, raise -1"},
		{"raise 200000, raise 1, raise -1", "raise 200000"}, {"raise 200000, raise 2, raise -1", "raise 200000, raise 1"}, {"raise 200000, raise 200000, raise -1, raise -1", "raise 200000, raise 199998"},
		{"raise 200000, raise 150000, raise 50000, raise -1", "raise 200000, raise 199999"}, {"shift 200000, shift 1", "shift 200001"},
		// Tags that come and go.
		{"tag x, untag x", ""}, {"untag x, tag x", ""}, {"tag x, untag y", "tag x, untag y"}, {"tag y, untag x", "untag x, tag y"}, {"tag x, tag x", "tag x, tag x"}, {"untag x, untag x", "untag x, untag x"},
		{"tag x, untag x, tag x", "tag x"}, {"tag x, tag x, untag x, untag x", ""}, {"tag b, tag a, untag b", "tag a"}, {"untag b, tag a, tag B", "tag B, tag a, untag b"}, {"tag ab, tag a, tag b, tag aa", "tag a, tag aa, tag ab, tag b"},
		// Places.
		{"field 1, raise 1, shift 1, tag a, sport 1, name a", "name a, sport 1, tag a, shift 1, raise 1, field 1"},
		{"crop 1 2, field 1, crop 1 2", "field 1, crop 1 2, crop 1 2"}, {"level 3, raise 2, name a", "name a, raise 2, level 3"},
		{"unlap 0, lap 1 2 x, fill 5, level 4, crop 1 2", "unlap 0, lap 1 2 x, fill 5, level 4, crop 1 2"}, {"level 1, level 1", "level 1, level 1"}, {"lap 1 2 , lap 1 2 ", "lap 1 2 , lap 1 2 "},
		{"crop 5 9, shift 1, crop 2 3, shift -1", "crop 5 9, crop 2 3"}, {"fill 1, tag x, fill 2, untag x", "fill 1, fill 2"},
		{"name a, tag x, name b, sport 1, sport 2, untag x", "name b, sport 2"},
	} {
		l, e := trail.Tidy(editsOf(t, c[0]))
		want(t, "Tidy of "+c[0], told(linesOf(l), e), c[1]+" 0")
	}
	want(t, "Tidy of none", told(trail.Tidy(nil)), "[] 0")
}

func TestK3Errors(t *testing.T) {
	l := many(200, func(i int) api.Edit { return tag(fmt.Sprint("t", 999-i)) })
	tidy, e := trail.Tidy(l)
	want(t, "as many as can be", told(len(tidy), tidy[0].Text, tidy[199].Text, e), "200 t800 t999 0")
	want(t, "one more", told(trail.Tidy(append(l, tag("x")))), "[] 3")
	want(t, "one more, all wrong", told(trail.Tidy(make([]api.Edit, 201))), "[] 3")
	want(t, "a wrong one", told(trail.Tidy([]api.Edit{tag("x"), untag("x"), {Kind: 13}, tag("")})), "[] 7")
	want(t, "two wrong ones", told(trail.Tidy([]api.Edit{tag("x"), shift(api.MaxMoment + 1), {}})), "[] 9")
	want(t, "a form", told(trail.Tidy([]api.Edit{{Kind: trail.EditShift, To: 1}})), "[] 2")
}

// slowPlace tells where an edit stands, as a text.
func slowPlace(x api.Edit) string {
	switch x.Kind {
	case trail.EditName:
		return "a"
	case trail.EditSport:
		return "b"
	case trail.EditTag, trail.EditUntag:
		return "c" + x.Text
	case trail.EditShift:
		return "d"
	case trail.EditRaise:
		return "e"
	case trail.EditField:
		return fmt.Sprint("f", x.N)
	}
	return "g"
}

// slowNeighbours tells what two neighbours become, by the words of the document.
func slowNeighbours(x, y api.Edit) ([]api.Edit, bool) {
	most := map[int]int{trail.EditShift: api.MaxMoment, trail.EditRaise: 2 * api.MaxHeight}[x.Kind]
	sum := x.N + y.N
	switch {
	case x.Kind == y.Kind && (x.Kind == trail.EditName || x.Kind == trail.EditSport || x.Kind == trail.EditField && x.N == y.N):
		return []api.Edit{y}, true
	case x.Kind == y.Kind && most > 0 && -most <= sum && sum <= most:
		return []api.Edit{number(x.Kind, sum)}, true
	case x.Text == y.Text && (x.Kind == trail.EditTag && y.Kind == trail.EditUntag || x.Kind == trail.EditUntag && y.Kind == trail.EditTag):
		return nil, true
	}
	return nil, false
}

// slowRule does a rule where it can be done first.
func slowRule(l []api.Edit, rule int) ([]api.Edit, bool) {
	for i := range l {
		x := l[i]
		if rule == 1 {
			if x.N == 0 && (x.Kind == trail.EditShift || x.Kind == trail.EditRaise || x.Kind == trail.EditLevel) {
				return slices.Concat(l[:i], l[i+1:]), true
			}
			continue
		}
		if i+1 == len(l) {
			break
		}
		y := l[i+1]
		if both, ok := slowNeighbours(x, y); rule == 2 && ok {
			return slices.Concat(l[:i], both, l[i+2:]), true
		}
		if rule == 3 && slowPlace(y) < slowPlace(x) {
			return slices.Concat(l[:i], []api.Edit{y, x}, l[i+2:]), true
		}
	}
	return l, false
}

func slowTidy(l []api.Edit) []api.Edit {
	for rule := 1; rule <= 3; rule++ {
		next, ok := slowRule(l, rule)
		if ok {
			l, rule = next, 0
		}
	}
	return l
}

// TestK3Random also asks whether a tidy list makes the same activity, and stays as it is.
func TestK3Random(t *testing.T) {
	r := rand.New(rand.NewSource(113))
	many, same := 0, 0
	for range 20000 {
		l := randomEdits(r, 1+r.Intn(14))
		tidy, e := trail.Tidy(l)
		want(t, "Tidy of "+linesOf(l), told(linesOf(tidy), e), told(linesOf(slowTidy(l)), 0))
		again, e := trail.Tidy(tidy)
		want(t, "Tidy of Tidy of "+linesOf(l), told(again, e), told(tidy, 0))
		a := randomActivity(r)
		b, _, e := trail.All(a, l)
		c, _, f := trail.All(a, tidy)
		if e == api.OK && f == api.OK {
			many++
			if len(tidy) < len(l) {
				same++
			}
			if !record.Same(b, c) {
				t.Errorf("%v: %s makes %v, but %s %v", a, linesOf(l), b, linesOf(tidy), c)
			}
		}
	}
	if many < 1000 || same < 200 {
		t.Error("not often: ", many, same)
	}
	for range 20 {
		l := randomEdits(r, 200)
		tidy, e := trail.Tidy(l)
		want(t, "Tidy of "+linesOf(l), told(linesOf(tidy), e), told(linesOf(slowTidy(l)), 0))
	}
}
