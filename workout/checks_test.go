package workout_test

import (
	"fmt"
	"math"
	"math/rand"
	"regexp"
	"slices"
	"strings"
	"testing"

	"harrier/api"
	"harrier/quant"
	"harrier/workout"
)

var nameForm = regexp.MustCompile(`^[a-zA-Z0-9_.-]{1,60}$`)

// rule is something that is asked of an item.
type rule struct {
	wrong bool
	e     api.Errno
}

func outside(n, low, high int) bool { return n < low || n > high }

// rulesOf follows the words of the document.
func rulesOf(x api.Item, place, within int) []rule {
	l := []rule{
		{place > 200 || within > 3, api.ErrSize},
		{x.Kind != 1 && x.Kind != 2 && x.Kind != 3, api.ErrKind},
	}
	if x.Kind == 3 {
		return append(l,
			rule{x.Name != "" || x.Seconds != 0 || x.Way != 0 || x.Aim != api.Aim{}, api.ErrForm},
			rule{outside(x.Times, 1, 99), api.ErrRange},
			rule{len(x.Items) == 0, api.ErrEmpty})
	}
	a := x.Aim
	most := map[int]int{1: 3000, 2: 300, 3: 300, 4: 36000}[a.Measure]
	if a.Percent {
		most = 300
	}
	return append(l,
		rule{!nameForm.MatchString(x.Name), api.ErrName},
		rule{x.Times != 0 || len(x.Items) > 0, api.ErrForm},
		rule{x.Seconds == 0 && x.Way == 0, api.ErrForm},
		rule{x.Seconds != 0 && x.Way != 0, api.ErrForm},
		rule{outside(x.Seconds, 0, 3599999), api.ErrRange},
		rule{outside(x.Way, 0, 1000000000), api.ErrRange},
		rule{outside(a.Measure, 0, 4), api.ErrKind},
		rule{a.Measure == 0 && (a.Percent || a.Low != 0 || a.High != 0), api.ErrForm},
		rule{a.Measure == 0 && x.Kind == 2, api.ErrForm},
		rule{a.Measure == 3 && a.Percent, api.ErrForm},
		rule{a.Measure != 0 && (outside(a.Low, 1, most) || outside(a.High, 1, most)), api.ErrRange},
		rule{a.Low > a.High && x.Kind == 1, api.ErrOrder})
}

func slowCount(l []api.Item) int {
	n := 0
	for _, x := range l {
		if x.Kind != 3 {
			n++
		}
		for range x.Times {
			n += slowCount(x.Items)
		}
	}
	return n
}

func slowCheck(w api.Workout) api.Errno {
	if !nameForm.MatchString(w.Name) {
		return api.ErrName
	}
	if len(w.Items) == 0 {
		return api.ErrEmpty
	}
	items, nests := places(w.Items, 0)
	for i, x := range items {
		for _, r := range rulesOf(*x, i+1, nests[i]) {
			if r.wrong {
				return r.e
			}
		}
	}
	if slowCount(w.Items) > 1000 {
		return api.ErrSize
	}
	return api.OK
}

// spoil changes something of an item.
func spoil(r *rand.Rand, x *api.Item) {
	n := []int{-1, 0, 0, 1, 2, 3, 4, 5, 99, 100, 300, 301, 3000, 3001, 36000, 36001, 3599999, 3600000, 1000000000, 1000000001, math.MinInt, math.MaxInt}[r.Intn(22)]
	switch r.Intn(13) {
	case 0:
		x.Kind = n
	case 1:
		x.Kind = 1 + r.Intn(3)
	case 2:
		x.Name = []string{"", "a b", "é", strings.Repeat("x", 60), strings.Repeat("x", 61)}[r.Intn(5)]
	case 3:
		x.Seconds = n
	case 4:
		x.Way = n
	case 5:
		x.Seconds, x.Way = x.Way, x.Seconds
	case 6:
		x.Aim.Measure = r.Intn(7) - 1
	case 7:
		x.Aim.Percent = !x.Aim.Percent
	case 8:
		x.Aim.Low = n
	case 9:
		x.Aim.High = n
	case 10:
		x.Times = min(n, 120)
	case 11:
		x.Items = []api.Item{easy()}
	case 12:
		x.Items = nil
	}
}

func TestG1CheckWords(t *testing.T) {
	r := rand.New(rand.NewSource(71))
	seen := map[api.Errno]int{}
	for range 60000 {
		w := randomWorkout(r)
		if e := workout.Check(w); e != api.OK {
			t.Fatal("a workout that is right: ", w, e)
		}
		items, _ := places(w.Items, 0)
		for range 1 + r.Intn(3) {
			spoil(r, items[r.Intn(len(items))])
		}
		e := workout.Check(w)
		seen[e]++
		want(t, fmt.Sprint(w), told(e), told(slowCheck(w)))
	}
	for _, e := range []api.Errno{api.OK, api.ErrForm, api.ErrSize, api.ErrKind, api.ErrName, api.ErrRange, api.ErrOrder, api.ErrEmpty} {
		if seen[e] < 5 {
			t.Error("not often: ", e, seen[e])
		}
	}
}

func TestG1Check(t *testing.T) {
	type items = []api.Item
	for _, c := range []struct {
		what string
		w    api.Workout
		want api.Errno
	}{
		{"a step", workoutOf(easy()), api.OK},
		{"no name", api.Workout{Items: items{easy()}}, api.ErrName},
		{"a wrong name", api.Workout{Name: "a b"}, api.ErrName},
		{"no items", api.Workout{Name: "w"}, api.ErrEmpty},
		{"an empty list", api.Workout{Name: "w", Items: items{}}, api.ErrEmpty},
		{"all items", workoutOf(many(200, easy())...), api.OK},
		{"one more", workoutOf(many(201, easy())...), api.ErrSize},
		{"all items, with those within", workoutOf(repeat(1, many(99, easy())...), repeat(1, many(99, easy())...)), api.OK},
		{"one more within", workoutOf(repeat(1, many(99, easy())...), repeat(1, many(100, easy())...)), api.ErrSize},
		{"one more behind", workoutOf(repeat(1, many(99, easy())...), repeat(1, many(99, easy())...), easy()), api.ErrSize},
		{"the size ahead of the kind", workoutOf(append(many(200, easy()), api.Item{})...), api.ErrSize},
		{"the kind of the last one", workoutOf(append(many(199, easy()), api.Item{})...), api.ErrKind},
		{"an earlier one ahead of the size", workoutOf(append(many(1, api.Item{Kind: 9}), many(300, easy())...)...), api.ErrKind},
		{"within three", workoutOf(nested(3, easy())), api.OK},
		{"within four", workoutOf(nested(4, easy())), api.ErrSize},
		{"an empty one within three", workoutOf(nested(3, repeat(1))), api.ErrEmpty},
		{"within four, of no kind", workoutOf(nested(4, api.Item{})), api.ErrSize},
		{"the outer one first", workoutOf(repeat(0, repeat(1, api.Item{Kind: 9}))), api.ErrRange},
		{"within first, then behind", workoutOf(repeat(1, step("", 5, api.Aim{})), api.Item{Kind: 9}), api.ErrName},
		{"no kind", workoutOf(api.Item{Kind: 4}), api.ErrKind},
		{"no kind, no name", workoutOf(api.Item{Kind: -1, Name: "é"}), api.ErrKind},
		{"a step with items", workoutOf(api.Item{Kind: 1, Name: "a", Seconds: 5, Items: items{easy()}}), api.ErrForm},
		{"a step with wrong items", workoutOf(api.Item{Kind: 1, Name: "a", Seconds: 5, Items: items{{Kind: 7}}}), api.ErrForm},
		{"a step with an empty list", workoutOf(api.Item{Kind: 1, Name: "a", Seconds: 5, Items: items{}}), api.OK},
		{"a step with Times", workoutOf(api.Item{Kind: 1, Name: "a", Seconds: 5, Times: 1}), api.ErrForm},
		{"no length", workoutOf(step("a", 0, api.Aim{})), api.ErrForm},
		{"both lengths", workoutOf(api.Item{Kind: 1, Name: "a", Seconds: 5, Way: 5}), api.ErrForm},
		{"both lengths, out of range", workoutOf(api.Item{Kind: 1, Name: "a", Seconds: -5, Way: -5}), api.ErrForm},
		{"seconds below 0", workoutOf(step("a", -1, aim(9, 0, 0))), api.ErrRange},
		{"all seconds", workoutOf(step("a", quant.MaxDuration, api.Aim{})), api.OK},
		{"one more second", workoutOf(step("a", quant.MaxDuration+1, api.Aim{})), api.ErrRange},
		{"a way below 0", workoutOf(over("a", -1, api.Aim{})), api.ErrRange},
		{"the longest way", workoutOf(over("a", quant.MaxDistance, api.Aim{})), api.OK},
		{"a longer one", workoutOf(over("a", quant.MaxDistance+1, api.Aim{})), api.ErrRange},
		{"no measure", workoutOf(step("a", 5, aim(5, 0, 0))), api.ErrKind},
		{"no measure, below 0", workoutOf(ramp("a", 5, aim(-1, 0, 0))), api.ErrKind},
		{"a number without a measure", workoutOf(step("a", 5, aim(0, 1, 0))), api.ErrForm},
		{"another one", workoutOf(step("a", 5, aim(0, 0, 1))), api.ErrForm},
		{"a percent without a measure", workoutOf(step("a", 5, percent(0, 0, 0))), api.ErrForm},
		{"a ramp without a measure", workoutOf(ramp("a", 5, api.Aim{})), api.ErrForm},
		{"steps in percent", workoutOf(step("a", 5, percent(3, 0, 0))), api.ErrForm},
		{"a wrong order", workoutOf(step("a", 5, watts(6, 5))), api.ErrOrder},
		{"a ramp down", workoutOf(ramp("a", 5, watts(6, 5))), api.OK},
		{"a wrong order out of range", workoutOf(step("a", 5, watts(6, 0))), api.ErrRange},
		{"a wrong order in percent", workoutOf(step("a", 5, percent(1, 6, 5))), api.ErrOrder},
		{"a repeat with a name", workoutOf(api.Item{Kind: 3, Name: "a", Times: 200}), api.ErrForm},
		{"a repeat with seconds", workoutOf(api.Item{Kind: 3, Seconds: 5, Times: 200}), api.ErrForm},
		{"a repeat with a way", workoutOf(api.Item{Kind: 3, Way: 5, Times: 200}), api.ErrForm},
		{"a repeat with an aim", workoutOf(api.Item{Kind: 3, Aim: percent(0, 0, 0), Times: 200}), api.ErrForm},
		{"a repeat without items, out of range", workoutOf(repeat(100)), api.ErrRange},
		{"a repeat without items", workoutOf(repeat(99)), api.ErrEmpty},
		{"all blocks", workoutOf(repeat(10, repeat(2, many(5, easy())...), repeat(90, easy()))), api.OK},
		{"one more block", workoutOf(repeat(10, repeat(2, many(5, easy())...), repeat(90, easy())), easy()), api.ErrSize},
		{"very many blocks", workoutOf(repeat(99, repeat(99, repeat(99, many(190, easy())...)))), api.ErrSize},
		{"too many blocks, but another error", workoutOf(repeat(99, repeat(99, easy())), repeat(2)), api.ErrEmpty},
	} {
		want(t, c.what, told(workout.Check(c.w)), told(c.want))
	}
}

func TestG1Ranges(t *testing.T) {
	for _, c := range []struct {
		what string
		high int
		w    func(n int) api.Workout
	}{
		{"power", 3000, func(n int) api.Workout { return workoutOf(ramp("a", 5, watts(n, 1))) }},
		{"power, high", 3000, func(n int) api.Workout { return workoutOf(step("a", 5, watts(1, n))) }},
		{"pulse", 300, func(n int) api.Workout { return workoutOf(ramp("a", 5, aim(2, n, 1))) }},
		{"pulse, high", 300, func(n int) api.Workout { return workoutOf(step("a", 5, aim(2, 1, n))) }},
		{"steps", 300, func(n int) api.Workout { return workoutOf(ramp("a", 5, aim(3, n, 1))) }},
		{"steps, high", 300, func(n int) api.Workout { return workoutOf(step("a", 5, aim(3, 1, n))) }},
		{"pace", 36000, func(n int) api.Workout { return workoutOf(ramp("a", 5, aim(4, n, 1))) }},
		{"pace, high", 36000, func(n int) api.Workout { return workoutOf(step("a", 5, aim(4, 1, n))) }},
		{"percent of power", 300, func(n int) api.Workout { return workoutOf(ramp("a", 5, percent(1, n, 1))) }},
		{"percent of pulse", 300, func(n int) api.Workout { return workoutOf(step("a", 5, percent(2, 1, n))) }},
		{"percent of pace", 300, func(n int) api.Workout { return workoutOf(step("a", 5, percent(4, 1, n))) }},
		{"times", 99, func(n int) api.Workout { return workoutOf(repeat(n, easy())) }},
	} {
		for n, e := range map[int]api.Errno{1: 0, c.high: 0, 0: 9, -1: 9, c.high + 1: 9, math.MinInt: 9, math.MaxInt: 9} {
			want(t, fmt.Sprint(c.what, " ", n), told(workout.Check(c.w(n))), told(e))
		}
	}
}

// TestG1First asks whether functions with workouts return Check's errors ahead of their own.
func TestG1First(t *testing.T) {
	h := api.Athlete{}
	w := api.Workout{Name: "w", Items: append(many(300, easy()), repeat(99, easy()))}
	_, e1 := workout.Print(w)
	_, e2 := workout.Plain(w)
	_, e3 := workout.Fold(w)
	_, e4 := workout.Timeline(w, h)
	_, _, e5 := workout.AimAt(w, h, -1)
	_, e6 := workout.Hold(w, h, api.Activity{})
	want(t, "ErrSize", told(e1, e2, e3, e4, e5, e6), "3 3 3 3 3 3")
	w = workoutOf(repeat(99, easy(), easy(), easy()), api.Item{Kind: 5})
	_, e1 = workout.Print(w)
	_, e2 = workout.Plain(w)
	_, e3 = workout.Fold(w)
	_, e4 = workout.Timeline(w, h)
	_, _, e5 = workout.AimAt(w, h, -1)
	_, e6 = workout.Hold(w, h, api.Activity{})
	want(t, "ErrKind", told(e1, e2, e3, e4, e5, e6), "7 7 7 7 7 7")
}

func TestG1Same(t *testing.T) {
	base := func() api.Workout {
		return workoutOf(step("a", 5, watts(5, 6)), repeat(2, easy(), repeat(3, step("b", 7, api.Aim{}))))
	}
	want(t, "two equal ones", told(workout.Same(base(), base())), "true")
	changes := map[string]func(x *api.Item){
		"Kind":    func(x *api.Item) { x.Kind += 9 },
		"Name":    func(x *api.Item) { x.Name += "x" },
		"Seconds": func(x *api.Item) { x.Seconds-- },
		"Way":     func(x *api.Item) { x.Way++ },
		"Measure": func(x *api.Item) { x.Aim.Measure++ },
		"Percent": func(x *api.Item) { x.Aim.Percent = true },
		"Low":     func(x *api.Item) { x.Aim.Low++ },
		"High":    func(x *api.Item) { x.Aim.High++ },
		"Times":   func(x *api.Item) { x.Times++ },
		"more":    func(x *api.Item) { x.Items = append(slices.Clone(x.Items), api.Item{}) },
	}
	for name, change := range changes {
		for i := range 5 {
			w := base()
			items, _ := places(w.Items, 0)
			change(items[i])
			want(t, fmt.Sprint(name, i), told(workout.Same(w, base()), workout.Same(base(), w), workout.Same(w, w)), "false false true")
		}
	}
	w := base()
	w.Name = "v"
	want(t, "another name", told(workout.Same(w, base())), "false")
	w = base()
	w.Items = w.Items[:1]
	want(t, "fewer items", told(workout.Same(w, base()), workout.Same(base(), w)), "false false")
	want(t, "nothing", told(workout.Same(api.Workout{}, api.Workout{Items: []api.Item{}})), "true")
	want(t, "an empty list", told(workout.Same(workoutOf(easy()), workoutOf(api.Item{Kind: 1, Name: "easy", Seconds: 60, Items: []api.Item{}}))), "true")
	deep, other := api.Item{}, api.Item{Kind: 1}
	for range 60000 {
		deep, other = api.Item{Items: []api.Item{deep}}, api.Item{Items: []api.Item{other}}
	}
	want(t, "deep ones", told(workout.Same(workoutOf(deep), workoutOf(deep)), workout.Same(workoutOf(deep), workoutOf(other)), workout.Check(workoutOf(nested(60000, easy())))), "true false 3")
}
