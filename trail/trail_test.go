package trail_test

import (
	"fmt"
	"math/rand"
	"reflect"
	"strings"
	"testing"

	"harrier/api"
	"harrier/record"
	"harrier/trail"
)

// told writes results with spaces between; codes of errors as numbers.
func told(l ...any) string {
	for i, x := range l {
		if e, ok := x.(api.Errno); ok {
			l[i] = int(e)
		}
	}
	return strings.TrimSuffix(fmt.Sprintln(l...), "\n")
}

func want(t *testing.T, what, got, wanted string) {
	t.Helper()
	if got != wanted {
		t.Errorf("%s: got %q, want %q", what, got, wanted)
	}
}

func one[T any](r *rand.Rand, l ...T) T { return l[r.Intn(len(l))] }

// wantOften asks whether random tests met each of some errors.
func wantOften(t *testing.T, seen map[api.Errno]int, l ...api.Errno) {
	t.Helper()
	for _, e := range l {
		if seen[e] < 20 {
			t.Errorf("error %d was met %d times", e, seen[e])
		}
	}
}

// none is what a function returns beside an error.
const none = "{ 0 0 [] [] []}"

func text(kind int, s string) api.Edit { return api.Edit{Kind: kind, Text: s} }

func number(kind, n int) api.Edit { return api.Edit{Kind: kind, N: n} }

func crop(from, to int) api.Edit { return api.Edit{Kind: trail.EditCrop, From: from, To: to} }

func lap(from, to int, name string) api.Edit {
	return api.Edit{Kind: trail.EditLap, From: from, To: to, Text: name}
}

func tag(s string) api.Edit { return text(trail.EditTag, s) }

func untag(s string) api.Edit { return text(trail.EditUntag, s) }

func shift(n int) api.Edit { return number(trail.EditShift, n) }

func raise(n int) api.Edit { return number(trail.EditRaise, n) }

// walk makes an activity of samples, with At, X, Y and Z each; what is left out is 0.
func walk(start int, l ...[]int) api.Activity {
	a := api.Activity{Name: "walk", Sport: api.Walk, Start: start}
	for _, s := range l {
		s = append(s, 0, 0, 0)
		a.Samples = append(a.Samples, api.Sample{At: s[0], X: s[1], Y: s[2], Z: s[3], Pulse: -1, Power: -1, Steps: -1})
	}
	return a
}

// full is an activity that has something of all kinds.
func full() api.Activity {
	a := walk(1000, []int{0, 0, 0, 0}, []int{3, 4, 4, 9}, []int{6, 5, 5, 5}, []int{9, 5, 5, 6})
	a.Samples[0].Pulse, a.Samples[2].Pulse = 100, 110
	a.Samples[1].Power, a.Samples[3].Power = 200, 210
	a.Samples[0].Steps = 80
	a.Laps = []api.Lap{{From: 0, To: 4, Name: "one"}, {From: 5, To: 9, Name: "two"}}
	a.Tags = []string{"b", "d"}
	return a
}

// long makes an activity with so many samples, a second apart.
func long(many int) api.Activity {
	a := walk(1000)
	for i := range many {
		a.Samples = append(a.Samples, api.Sample{At: i, X: 10 * i, Pulse: -1, Power: -1, Steps: -1})
	}
	return a
}

// many makes a list of so many elements.
func many[T any](n int, make func(i int) T) (l []T) {
	for i := range n {
		l = append(l, make(i))
	}
	return l
}

func unknown(r *rand.Rand, most int) int { return one(r, -1, -1, r.Intn(most+1)) }

// randomActivity makes an activity with something of all kinds, often near a limit.
func randomActivity(r *rand.Rand) api.Activity {
	a := api.Activity{Name: one(r, "a", "b"), Sport: one(r, api.Run, api.Ride), Start: one(r, 0, 5, 1000, api.MaxMoment-200)}
	at := 0
	for range r.Intn(1 + r.Intn(9)) {
		a.Samples = append(a.Samples, api.Sample{At: at, X: r.Intn(50), Y: r.Intn(50), Z: one(r, r.Intn(50), api.MaxHeight-5), Pulse: unknown(r, api.MaxPulse), Power: unknown(r, api.MaxPower), Steps: unknown(r, api.MaxSteps)})
		at += 1 + r.Intn(9)
	}
	for from := r.Intn(5); from < record.Span(a); from += r.Intn(6) {
		to := from + 1 + r.Intn(9)
		if to <= record.Span(a) {
			a.Laps = append(a.Laps, api.Lap{From: from, To: to, Name: one(r, "", "x", "a lap")})
		}
		from = to
	}
	for _, x := range []string{"a", "b", "c"} {
		if r.Intn(2) == 0 {
			a.Tags = append(a.Tags, x)
		}
	}
	return a
}

// randomEdit makes an edit that is right.
func randomEdit(r *rand.Rand) api.Edit {
	from := r.Intn(20)
	switch kind := 1 + r.Intn(12); kind {
	case trail.EditName, trail.EditTag, trail.EditUntag:
		return text(kind, one(r, "a", "b", "c"))
	case trail.EditSport, trail.EditField, trail.EditLevel:
		return number(kind, 1+r.Intn(3))
	case trail.EditShift:
		return shift(one(r, 1, -1, 7, -7, 0, 150, -2000, r.Intn(100), api.MaxMoment, -api.MaxMoment))
	case trail.EditRaise:
		return raise(one(r, 1, -1, 4, -4, 0, r.Intn(100), -2*api.MaxHeight, 2*api.MaxHeight))
	case trail.EditCrop:
		return crop(from, from+1+r.Intn(30))
	case trail.EditFill:
		return number(kind, r.Intn(30))
	case trail.EditLap:
		return lap(from, from+1+r.Intn(5), one(r, "", "new", "a  b"))
	default:
		return number(kind, r.Intn(4))
	}
}

func randomEdits(r *rand.Rand, most int) []api.Edit {
	return many(r.Intn(most+1), func(int) api.Edit { return randomEdit(r) })
}

// given has arguments, with room behind their elements.
type given struct {
	a, b  api.Activity
	edits []api.Edit
	log   []api.Activity
}

func newGiven() *given {
	x := &given{a: full(), b: full(), edits: []api.Edit{tag("x"), tag("a"), shift(3), raise(2), shift(-1), number(trail.EditUnlap, 1), lap(6, 9, "z"), untag("x")}}
	x.b.Tags, x.b.Start = []string{"c"}, 1002
	x.log = []api.Activity{x.a, walk(9, []int{0}), x.b}
	x.edits, x.log = roomy(x.edits), roomy(x.log)
	for _, a := range []*api.Activity{&x.a, &x.b, &x.log[0], &x.log[2]} {
		a.Samples, a.Laps, a.Tags = roomy(a.Samples), roomy(a.Laps), roomy(a.Tags)
	}
	return x
}

func roomy[T any](l []T) []T { return append(make([]T, 0, len(l)+9), l...) }

func all[T any](l []T) []T { return l[:cap(l)] }

func wholeActivity(a api.Activity) api.Activity {
	a.Samples, a.Laps, a.Tags = all(a.Samples), all(a.Laps), all(a.Tags)
	return a
}

// whole has the lists as long as their capacity is.
func (x *given) whole() given {
	var log []api.Activity
	for _, a := range all(x.log) {
		log = append(log, wholeActivity(a))
	}
	return given{wholeActivity(x.a), wholeActivity(x.b), all(x.edits), log}
}

// results has what the functions return that return lists.
func (x *given) results() map[string]any {
	l := map[string]any{}
	for _, edit := range []api.Edit{text(1, "n"), number(2, 1), tag("c"), untag("b"), shift(1), raise(1), number(7, 1), crop(1, 8), number(9, 1), number(10, 30), lap(4, 5, "x"), number(12, 0)} {
		l["Apply "+fmt.Sprint(edit)], _ = trail.Apply(x.a, edit)
	}
	l["All"], _, _ = trail.All(x.a, x.edits)
	l["All of none"], _, _ = trail.All(x.a, nil)
	l["Tidy"], _ = trail.Tidy(x.edits)
	l["Tidy of two"], _ = trail.Tidy(x.edits[:2])
	printed, _ := trail.Print(x.edits)
	l["Read"], _, _ = trail.Read(printed)
	l["Merge"], _ = trail.Merge(x.a, x.b, 2)
	l["Merge with others"], _ = trail.Merge(x.a, x.b, -100)
	l["Merge with none"], _ = trail.Merge(x.a, walk(1), 5)
	l["Pair"], _ = trail.Pair(x.log, 5, 1, 0)
	s, _ := trail.NewStory(x.a)
	l["First"], l["Now"] = s.First(), s.Now()
	for _, edit := range x.edits {
		s.Do(edit)
	}
	l["Edits"], l["Now, later"] = s.Edits(), s.Now()
	return l
}

// scribble writes over all memory that the lists of a value have, also over their unused capacity.
func scribble(v reflect.Value) {
	switch v.Kind() {
	case reflect.Struct:
		for i := range v.NumField() {
			scribble(v.Field(i))
		}
	case reflect.Slice:
		v = v.Slice3(0, v.Cap(), v.Cap())
		for i := range v.Len() {
			v.Index(i).SetZero()
		}
	}
}

// TestK1OwnMemory asks whether arguments stay as they are, and whether results have memory of their own (Z2).
func TestK1OwnMemory(t *testing.T) {
	x, y := newGiven(), newGiven()
	trail.Fit(x.a, x.b, 5, 1)
	first := x.results()
	known := map[string]string{}
	for name, result := range first {
		known[name] = fmt.Sprint(result)
		if reflect.ValueOf(result).IsZero() {
			t.Errorf("%s: nothing comes of it", name)
		}
	}
	for _, result := range x.results() {
		scribble(reflect.ValueOf(result))
	}
	if !reflect.DeepEqual(x.whole(), y.whole()) {
		t.Errorf("the arguments are others: %v", x.whole())
	}
	for name, result := range first {
		want(t, name+" once more", fmt.Sprint(result), known[name])
	}
}

func TestLimits(t *testing.T) {
	want(t, "limits", told(trail.MaxEdits, trail.MaxSamples, trail.MaxShift), "200 400 3600")
	want(t, "kinds", told(trail.EditName, trail.EditSport, trail.EditTag, trail.EditUntag, trail.EditShift, trail.EditRaise, trail.EditField, trail.EditCrop, trail.EditLevel, trail.EditFill, trail.EditLap, trail.EditUnlap), "1 2 3 4 5 6 7 8 9 10 11 12")
}
