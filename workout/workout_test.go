package workout_test

import (
	"fmt"
	"math/big"
	"math/rand"
	"reflect"
	"slices"
	"strings"
	"testing"

	"harrier/api"
	"harrier/effort"
	"harrier/quant"
	"harrier/workout"
)

// told writes results with spaces between; codes of errors as numbers.
func told(l ...any) string {
	for i, x := range l {
		if e, ok := x.(api.Errno); ok {
			l[i] = int(e)
		}
	}
	return strings.TrimSuffix(fmt.Sprintln(l...), "\n")
}

func want(t *testing.T, what, got, wanted string) {
	t.Helper()
	if got != wanted {
		t.Errorf("%s: got %q, want %q", what, got, wanted)
	}
}

func number(n int) *big.Int { return big.NewInt(int64(n)) }

// floored returns a / b rounded down.
func floored(a, b int) int {
	q, r := new(big.Int).QuoRem(number(a), number(b), new(big.Int))
	if r.Sign() != 0 && r.Sign() != number(b).Sign() {
		q.Sub(q, number(1))
	}
	return int(q.Int64())
}

func aim(measure, low, high int) api.Aim { return api.Aim{Measure: measure, Low: low, High: high} }

func percent(measure, low, high int) api.Aim {
	return api.Aim{Measure: measure, Percent: true, Low: low, High: high}
}

func watts(low, high int) api.Aim { return aim(workout.AimPower, low, high) }

func step(name string, seconds int, a api.Aim) api.Item {
	return api.Item{Kind: workout.ItemStep, Name: name, Seconds: seconds, Aim: a}
}

func ramp(name string, seconds int, a api.Aim) api.Item {
	return api.Item{Kind: workout.ItemRamp, Name: name, Seconds: seconds, Aim: a}
}

func over(name string, way int, a api.Aim) api.Item {
	return api.Item{Kind: workout.ItemStep, Name: name, Way: way, Aim: a}
}

func repeat(times int, l ...api.Item) api.Item {
	return api.Item{Kind: workout.ItemRepeat, Times: times, Items: l}
}

func workoutOf(l ...api.Item) api.Workout { return api.Workout{Name: "w", Items: l} }

// easy is a step that is right.
func easy() api.Item { return step("easy", 60, api.Aim{}) }

// many makes a list of so many equal items.
func many(n int, x api.Item) []api.Item { return slices.Repeat([]api.Item{x}, n) }

// nested puts an item within so many repeats.
func nested(n int, x api.Item) api.Item {
	for range n {
		x = repeat(1, x)
	}
	return x
}

// randomAim makes an aim that is right for a step (or a ramp).
func randomAim(r *rand.Rand, isRamp bool) api.Aim {
	if !isRamp && r.Intn(4) == 0 {
		return api.Aim{}
	}
	a := api.Aim{Measure: 1 + r.Intn(4)}
	most := []int{0, api.MaxPower, api.MaxPulse, api.MaxSteps, quant.MaxPace}[a.Measure]
	if a.Measure != workout.AimSteps && r.Intn(2) == 0 {
		a.Percent, most = true, 300
	}
	if r.Intn(3) > 0 {
		most = 40
	}
	a.Low, a.High = 1+r.Intn(most), 1+r.Intn(most)
	if r.Intn(3) == 0 {
		a.High = a.Low
	}
	if !isRamp && a.Low > a.High {
		a.Low, a.High = a.High, a.Low
	}
	return a
}

func randomStep(r *rand.Rand) api.Item {
	x := api.Item{Kind: workout.ItemStep + r.Intn(2), Name: []string{"a", "b", "step", "end", "A-1._"}[r.Intn(5)]}
	if r.Intn(2) == 0 {
		x.Seconds = 1 + r.Intn([]int{5, 5000, quant.MaxDuration}[r.Intn(3)])
	} else {
		x.Way = 1 + r.Intn([]int{50, 30000, quant.MaxDistance}[r.Intn(3)])
	}
	x.Aim = randomAim(r, x.Kind == workout.ItemRamp)
	return x
}

// randomItems makes items that are right within so many repeats.
func randomItems(r *rand.Rand, within int) []api.Item {
	var l []api.Item
	for range 1 + r.Intn(4) {
		if within < workout.MaxNest && r.Intn(3) == 0 {
			l = append(l, repeat(1+r.Intn(4), randomItems(r, within+1)...))
		} else {
			l = append(l, randomStep(r))
		}
	}
	return l
}

func randomWorkout(r *rand.Rand) api.Workout {
	w := api.Workout{Name: []string{"w", "x.y", "workout"}[r.Intn(3)], Items: randomItems(r, 0)}
	for slowCount(w.Items) > workout.MaxBlocks {
		w.Items = randomItems(r, 0)
	}
	return w
}

// places returns all items of a list, each one before those within it, with how many others it is within.
func places(l []api.Item, within int) (items []*api.Item, nests []int) {
	for i := range l {
		inner, n := places(l[i].Items, within+1)
		items = append(append(items, &l[i]), inner...)
		nests = append(append(nests, within), n...)
	}
	return items, nests
}

func TestG1Limits(t *testing.T) {
	want(t, "limits", told(workout.MaxSource, workout.MaxItems, workout.MaxNest, workout.MaxTimes, workout.MaxBlocks, workout.MaxFit, workout.MaxHeld, workout.Apart), "20000 200 3 99 1000 3000 100 100")
	want(t, "kinds", told(workout.ItemStep, workout.ItemRamp, workout.ItemRepeat), "1 2 3")
	want(t, "measures", told(workout.AimNone, workout.AimPower, workout.AimPulse, workout.AimSteps, workout.AimPace), "0 1 2 3 4")
}

// given has arguments, with room behind their elements.
type given struct {
	w api.Workout
	a api.Activity
	l []int
}

func newGiven() *given {
	stay := easy()
	stay.Items = many(5, easy())[:0] // a list without items, but with memory
	inner := repeat(2, roomy([]api.Item{step("on", 3, watts(150, 200)), stay})...)
	inner.Items = roomy(inner.Items)
	w := api.Workout{Name: "w", Items: roomy([]api.Item{easy(), inner, inner, inner})}
	for i := range w.Items {
		w.Items[i].Items = roomy(w.Items[i].Items)
	}
	a := api.Activity{Name: "a", Sport: api.Ride, Laps: roomy([]api.Lap{}), Tags: roomy([]string{"x"})}
	for i := range 400 {
		a.Samples = append(a.Samples, api.Sample{At: i, X: 30 * i, Pulse: -1, Power: 180, Steps: -1})
	}
	a.Samples = roomy(a.Samples)
	return &given{w: w, a: a, l: roomy([]int{100, 200, -1})}
}

func roomy[T any](l []T) []T { return append(make([]T, 0, len(l)+9), l...) }

func all[T any](l []T) []T { return l[:cap(l)] }

func wholeItems(l []api.Item) []api.Item {
	l = slices.Clone(all(l))
	for i := range l {
		l[i].Items = wholeItems(l[i].Items)
	}
	return l
}

// whole has the lists as long as their capacity is.
func (x *given) whole() given {
	y := given{x.w, x.a, all(x.l)}
	y.w.Items = wholeItems(x.w.Items)
	y.a.Samples, y.a.Laps, y.a.Tags = all(x.a.Samples), all(x.a.Laps), all(x.a.Tags)
	return y
}

// TestG1OwnMemory asks whether arguments stay as they are, and whether results have memory of their own (Z2).
func TestG1OwnMemory(t *testing.T) {
	h := api.Athlete{Power: 200, Pulse: 180, Pace: 300}
	two := func(x any, e api.Errno) []any { return []any{x, e} }
	block := api.Block{Measure: workout.AimPower, Low: 150, High: 160}
	text := "workout a\nrepeat 3\n repeat 2\n step a for 1s\n step b for 1s\n end\n step c for 1s\nend"
	calls := map[string]func(x *given) []any{
		"Check":    func(x *given) []any { return []any{workout.Check(x.w)} },
		"Same":     func(x *given) []any { return []any{workout.Same(x.w, x.w), api.OK} },
		"Print":    func(x *given) []any { return two(workout.Print(x.w)) },
		"Read":     func(*given) []any { w, _, e := workout.Read(text); return two(w, e) },
		"Plain":    func(x *given) []any { return two(workout.Plain(x.w)) },
		"Fold":     func(x *given) []any { return two(workout.Fold(x.w)) },
		"Timeline": func(x *given) []any { return two(workout.Timeline(x.w, h)) },
		"AimAt":    func(x *given) []any { n, m, e := workout.AimAt(x.w, h, 61); return []any{n, m, e} },
		"Costs":    func(x *given) []any { return two(workout.Costs(block, x.l)) },
		"Hold":     func(x *given) []any { return two(workout.Hold(x.w, h, x.a)) },
	}
	for name, call := range calls {
		x, y := newGiven(), newGiven()
		first := call(x)
		if first[len(first)-1] != api.OK || len(first) > 1 && reflect.ValueOf(first[0]).IsZero() {
			t.Errorf("%s: nothing comes of it: %v", name, first)
		}
		told := fmt.Sprint(first...)
		for _, r := range call(x) {
			v := reflect.New(reflect.TypeOf(r)).Elem()
			v.Set(reflect.ValueOf(r))
			scribble(v)
		}
		if !reflect.DeepEqual(x.whole(), y.whole()) {
			t.Errorf("%s: the arguments are others: %v", name, x.whole())
		}
		want(t, name+" once more", fmt.Sprint(first...), told)
	}
}

// scribble writes over all memory that the lists of a value have, also over their unused capacity, but first over that of the lists within.
func scribble(v reflect.Value) {
	switch v.Kind() {
	case reflect.Struct:
		for i := range v.NumField() {
			scribble(v.Field(i))
		}
	case reflect.Slice:
		v = v.Slice3(0, v.Cap(), v.Cap())
		for i := range v.Len() {
			scribble(v.Index(i))
			v.Index(i).SetZero()
		}
	}
}

// TestG2OwnLists asks whether the lists of one result share memory with one another: what is put at the end of one of them changes no other one.
func TestG2OwnLists(t *testing.T) {
	w := workoutOf(many(150, easy())...)
	for i := range 150 {
		w.Items[i].Name = fmt.Sprintf("n%d-%d", i/30, i/6%5*(i%2))
	}
	folded, e1 := workout.Fold(w)
	read, _, e2 := workout.Read("workout w\n" + strings.Repeat("repeat 2\nstep a for 1s\nrepeat 3\nstep b for 1s\nend\nend\n", 5))
	want(t, "codes", told(e1, e2), "0 0")
	for name, w := range map[string]api.Workout{"Fold": folded, "Read": read} {
		before := fmt.Sprint(w)
		items, _ := places(w.Items, 0)
		lists := 0
		for _, x := range items {
			if len(x.Items) > 0 {
				_ = append(x.Items, many(20, easy())...)
				_ = append(x.Items, easy())
				lists++
			}
		}
		want(t, name, fmt.Sprint(w), before)
		if lists < 5 {
			t.Errorf("%s: only %d lists: %v", name, lists, w)
		}
	}
}

// TestG1ErrorsAlone asks whether all other results are zero with an error (Z3).
func TestG1ErrorsAlone(t *testing.T) {
	h := api.Athlete{Power: 200, Pulse: 180, Pace: 300}
	wrong := workoutOf(easy(), repeat(2, easy(), step("b", 0, api.Aim{})))
	long := workoutOf(repeat(99, easy(), easy(), easy()))
	huge := workoutOf(easy(), step("b", api.MaxSpan, api.Aim{}))
	x := newGiven()
	two := func(x any, e api.Errno) []any { return []any{x, e} }
	three := func(x, y any, e api.Errno) []any { return []any{x, y, e} }
	w1, _, e1 := workout.Read("workout a\nstep b for 1s\nstep c for 1x\n")
	w2, line, e2 := workout.Read("workout a\nstep b for 1s\nstep c for 0s\n")
	n1, n2, e3 := workout.AimAt(wrong, h, 5)
	n3, n4, e4 := workout.AimAt(x.w, h, 5000)
	n5, n6, e5 := workout.AimAt(x.w, api.Athlete{}, 61)
	for name, l := range map[string][]any{
		"Print":             two(workout.Print(wrong)),
		"Read, line":        two(w1, e1),
		"Read, Check":       three(w2, line, e2),
		"Plain":             two(workout.Plain(wrong)),
		"Plain, long":       two(workout.Plain(long)),
		"Fold":              two(workout.Fold(wrong)),
		"Fold, long":        two(workout.Fold(long)),
		"Timeline":          two(workout.Timeline(wrong, h)),
		"Timeline, athlete": two(workout.Timeline(x.w, api.Athlete{})),
		"Timeline, huge":    two(workout.Timeline(huge, h)),
		"AimAt":             {n1, n2, e3},
		"AimAt, second":     {n3, n4, e4},
		"AimAt, athlete":    {n5, n6, e5},
		"Costs":             two(workout.Costs(api.Block{}, []int{5, 5, -2})),
		"Hold":              two(workout.Hold(wrong, h, x.a)),
		"Hold, athlete":     two(workout.Hold(x.w, api.Athlete{}, x.a)),
		"Hold, huge":        two(workout.Hold(huge, h, x.a)),
		"Hold, nothing":     two(workout.Hold(x.w, h, api.Activity{Name: "a", Sport: api.Run})),
		"Hold, activity":    two(workout.Hold(x.w, h, api.Activity{})),
		"Hold, long":        two(workout.Hold(long, h, x.a)),
	} {
		for _, x := range l[:len(l)-1] {
			if !reflect.ValueOf(x).IsZero() || l[len(l)-1] == api.OK {
				t.Errorf("%s: %v", name, l)
			}
		}
	}
	_, e := workout.Costs(api.Block{}, make([]int, effort.MaxStream+1))
	want(t, "a stream that is too long", told(e), "3")
}
