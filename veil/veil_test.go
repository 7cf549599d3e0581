package veil_test

import (
	"fmt"
	"math/rand"
	"reflect"
	"slices"
	"strings"
	"testing"

	"harrier/api"
	"harrier/record"
	"harrier/veil"
)

// told writes results with spaces between; codes of errors as numbers.
func told(l ...any) string {
	for i, x := range l {
		if e, ok := x.(api.Errno); ok {
			l[i] = int(e)
		}
	}
	return strings.TrimSuffix(fmt.Sprintln(l...), "\n")
}

func want(t *testing.T, what, got, wanted string) {
	t.Helper()
	if got != wanted {
		t.Errorf("%s: got %q, want %q", what, got, wanted)
	}
}

func one[T any](r *rand.Rand, l ...T) T { return l[r.Intn(len(l))] }

func veilOf(l ...api.VeilRule) api.Veil { return api.Veil{Rules: l} }

func place(from, x, y, far int) api.VeilRule {
	return api.VeilRule{From: from, Kind: api.VeilPlace, X: x, Y: y, R: far}
}

func hours(from, first, last int) api.VeilRule {
	return api.VeilRule{From: from, Kind: api.VeilHours, Hours: api.Span{From: first, To: last}}
}

func field(from, n int) api.VeilRule {
	return api.VeilRule{From: from, Kind: api.VeilField, N: n}
}

func tag(from int, text string) api.VeilRule {
	return api.VeilRule{From: from, Kind: api.VeilTag, Text: text}
}

func sport(from, n int) api.VeilRule {
	return api.VeilRule{From: from, Kind: api.VeilSport, N: n}
}

func day(from int) api.VeilRule { return api.VeilRule{From: from, Kind: api.VeilDay} }

func name(from int) api.VeilRule { return api.VeilRule{From: from, Kind: api.VeilName} }

func grid(from, n int) api.VeilRule { return api.VeilRule{From: from, Kind: api.VeilGrid, N: n} }

// walk makes an activity of samples, with At, X, Y and Z each; what is left out is 0.
func walk(l ...[]int) api.Activity {
	a := api.Activity{Name: "walk", Sport: api.Walk, Start: 1000}
	for _, s := range l {
		s = append(s, 0, 0, 0)
		a.Samples = append(a.Samples, api.Sample{At: s[0], X: s[1], Y: s[2], Z: s[3], Pulse: -1, Power: -1, Steps: -1})
	}
	return a
}

// ats returns for each activity the At of its samples, with its Start.
func ats(l []api.Activity) string {
	var b strings.Builder
	for _, a := range l {
		fmt.Fprint(&b, a.Start, ":")
		for _, s := range a.Samples {
			fmt.Fprint(&b, " ", s.At)
		}
		b.WriteString("; ")
	}
	return b.String()
}

// full is an activity that has something of all kinds, and a pause; with two pieces.
func full() api.Activity {
	a := walk([]int{0, 0, 0, 10}, []int{10, 100, 0, 20}, []int{20, 200, 0, 15}, []int{100, 300, 50, 30}, []int{110, 305, 55, 31})
	for i := range a.Samples {
		a.Samples[i].Pulse, a.Samples[i].Power, a.Samples[i].Steps = 100+i, 200+i, 80+i
	}
	a.Laps = []api.Lap{{From: 0, To: 10, Name: "up"}, {From: 10, To: 20, Name: "down"}, {From: 20, To: 100, Name: "rest"}, {From: 100, To: 110, Name: "home"}}
	a.Tags = []string{"hill", "town"}
	return a
}

// given has arguments, with room behind their elements.
type given struct {
	v, w  api.Veil
	l     []api.Activity
	sizes []int
	b     []byte
}

func newGiven() *given {
	x := &given{
		v:     veilOf(place(1, 0, 0, 5), field(2, api.FieldPower), tag(3, "race"), day(1), name(2), grid(1, 7), hours(1, 50, 60), place(2, 0, 0, 4)),
		w:     veilOf(sport(1, api.Swim), grid(2, 3)),
		l:     []api.Activity{full(), walk([]int{0, 50, 50}, []int{30, 90, 90})},
		sizes: []int{1, 5, 10},
	}
	x.b, _ = veil.Export(x.v, 1, x.l, true)
	for i := range x.l {
		a := &x.l[i]
		a.Samples, a.Laps, a.Tags = roomy(a.Samples), roomy(a.Laps), roomy(a.Tags)
	}
	x.v.Rules, x.w.Rules, x.l, x.sizes, x.b = roomy(x.v.Rules), roomy(x.w.Rules), roomy(x.l), roomy(x.sizes), roomy(x.b)
	return x
}

func roomy[T any](l []T) []T { return append(make([]T, 0, len(l)+9), l...) }

func all[T any](l []T) []T { return l[:cap(l)] }

// whole has the lists as long as their capacity is.
func (x *given) whole() given {
	var log []api.Activity
	for _, a := range all(x.l) {
		a.Samples, a.Laps, a.Tags = all(a.Samples), all(a.Laps), all(a.Tags)
		log = append(log, a)
	}
	return given{veilOf(all(x.v.Rules)...), veilOf(all(x.w.Rules)...), log, all(x.sizes), all(x.b)}
}

// answers has what all functions but Import and Read answer to arguments, by their names.
func (x *given) answers(level, kind int) map[string][]any {
	two := func(x any, e api.Errno) []any { return []any{x, e} }
	three := func(x, y any, e api.Errno) []any { return []any{x, y, e} }
	a, b := x.l[0], x.l[1]
	hidden, isHidden, e := veil.Hidden(x.v, level, a)
	greatest, ok, f := veil.Audience(x.v, a)
	return map[string][]any{
		"Check":    {veil.Check(x.v)},
		"Hidden":   three(hidden, isHidden, e),
		"See":      two(veil.See(x.v, level, a)),
		"SeeAll":   two(veil.SeeAll(x.v, level, x.l)),
		"Totals":   two(veil.Totals(x.v, level, x.l)),
		"Curve":    two(veil.Curve(x.v, level, x.l, kind, x.sizes)),
		"Export":   two(veil.Export(x.v, level, x.l, true)),
		"Tells":    two(veil.Tells(x.v, level, a, b)),
		"Audience": three(greatest, ok, f),
		"Covers":   two(veil.Covers(x.v.Rules[0], x.v.Rules[len(x.v.Rules)-1])),
		"Idle":     two(veil.Idle(x.v)),
		"Tidy":     two(veil.Tidy(x.v)),
		"Both":     two(veil.Both(x.v, x.w)),
		"Print":    two(veil.Print(x.v)),
	}
}

// allRight has arguments with which no function has an error or nothing to tell.
func (x *given) allRight() map[string][]any {
	l := x.answers(1, api.StreamPulse)
	greatest, _, e := veil.Audience(veilOf(x.v.Rules[1]), x.l[1])
	l["Audience"] = []any{greatest, e}
	read, _, e := veil.Read("friend tag a\nall day\n")
	l["Read"] = []any{read, e}
	imported, e := veil.Import(x.b)
	l["Import"] = []any{imported, e}
	return l
}

// TestJ1OwnMemory asks whether arguments stay as they are, and whether results have memory of their own (Z2).
func TestJ1OwnMemory(t *testing.T) {
	x, y := newGiven(), newGiven()
	first := x.allRight()
	known := map[string]string{}
	for what, l := range first {
		known[what] = fmt.Sprint(l...)
		if l[len(l)-1] != api.OK || len(l) > 1 && reflect.ValueOf(l[0]).IsZero() {
			t.Errorf("%s: nothing comes of it: %v", what, l)
		}
	}
	for _, l := range x.allRight() {
		for _, result := range l {
			v := reflect.New(reflect.TypeOf(result)).Elem()
			v.Set(reflect.ValueOf(result))
			scribble(v)
		}
	}
	if !reflect.DeepEqual(x.whole(), y.whole()) {
		t.Errorf("the arguments are others: %v", x.whole())
	}
	for what, l := range first {
		want(t, what+" once more", fmt.Sprint(l...), known[what])
	}
}

// TestJ1OwnPieces asks whether the pieces of one result have memory of their own, also behind their ends.
func TestJ1OwnPieces(t *testing.T) {
	l, _ := veil.SeeAll(api.Veil{}, 0, []api.Activity{full(), full()})
	for i := range l {
		known, _ := veil.SeeAll(api.Veil{}, 0, []api.Activity{full(), full()})
		scribble(reflect.ValueOf(&l[i]).Elem())
		for j := i + 1; j < len(l); j++ {
			if !record.Same(l[j], known[j]) {
				t.Errorf("piece %d shares memory with piece %d", j, i)
			}
		}
	}
}

// scribble writes over all memory that the lists of a value have, also over their unused capacity.
func scribble(v reflect.Value) {
	switch v.Kind() {
	case reflect.Struct:
		for i := range v.NumField() {
			scribble(v.Field(i))
		}
	case reflect.Slice:
		v = v.Slice3(0, v.Cap(), v.Cap())
		for i := range v.Len() {
			scribble(v.Index(i))
			v.Index(i).SetZero()
		}
	}
}

// wantError asks whether functions return an error, and all else as zero (Z3).
func wantError(t *testing.T, what string, l map[string][]any, e api.Errno, names ...string) {
	t.Helper()
	for _, name := range names {
		x := l[name]
		want(t, what+", "+name, told(x[len(x)-1]), told(e))
		for _, result := range x[:len(x)-1] {
			if !reflect.ValueOf(result).IsZero() {
				t.Errorf("%s, %s: %v", what, name, x)
			}
		}
	}
}

// TestJ1First asks for the order of errors: those of the veil, of the level, of the log, of activities, and of what comes behind.
func TestJ1First(t *testing.T) {
	onActivity, onLog := []string{"Hidden", "See", "Tells"}, []string{"SeeAll", "Totals", "Curve", "Export"}
	withLevel := slices.Concat(onActivity, onLog)
	x := newGiven()
	x.l[0].Name, x.l[1].Sport, x.sizes = "", 0, nil
	log := x.l
	wantError(t, "a wrong name", x.answers(0, 0), api.ErrName, append(withLevel, "Audience")...)
	wantError(t, "a wrong name, the greatest level", x.answers(veil.MaxLevel, 0), api.ErrName, withLevel...)
	x.l = append(x.l, make([]api.Activity, veil.MaxLog-1)...)
	wantError(t, "too long a log", x.answers(0, 0), api.ErrSize, onLog...)
	for _, level := range []int{-1, veil.MaxLevel + 1, -1 << 63, 1<<63 - 1} {
		wantError(t, fmt.Sprint("level ", level), x.answers(level, 0), api.ErrRange, withLevel...)
	}
	x.v.Rules[2].Kind = 0
	wantError(t, "a wrong rule", x.answers(-1, 0), api.ErrKind, append(withLevel, "Check", "Audience", "Idle", "Tidy", "Both", "Print")...)
	x.l = log[1:]
	x.l = append(x.l, full())
	x.v.Rules[2].Kind = api.VeilTag
	wantError(t, "a wrong sport", x.answers(0, 0), api.ErrKind, append(withLevel, "Audience")...)
	x.l = []api.Activity{full(), x.l[0]}
	wantError(t, "the second one is wrong", x.answers(0, 0), api.ErrKind, "Tells", "SeeAll", "Totals", "Curve", "Export")
	want(t, "the first one is right", told(veil.See(x.v, 0, x.l[0]))[:8], "[{walk 4")
}

// TestJ1Log has logs as long as can be, and longer ones.
func TestJ1Log(t *testing.T) {
	l := slices.Repeat([]api.Activity{walk([]int{0}, []int{2, 3, 4})}, veil.MaxLog)
	want(t, "as long as can be", told(veil.Totals(api.Veil{}, 3, l)), "{2000 10000 0 4000} 0")
	pieces, e := veil.SeeAll(api.Veil{}, 3, l)
	want(t, "as long as can be", told(len(pieces), e), "2000 0")
	want(t, "one more", told(veil.Totals(api.Veil{}, 3, append(l, l[0]))), "{0 0 0 0} 3")
	want(t, "no log", told(veil.Totals(api.Veil{}, 3, nil)), "{0 0 0 0} 0")
}
