package workout_test

import (
	"fmt"
	"math"
	"math/rand"
	"slices"
	"strings"
	"testing"

	"harrier/api"
	"harrier/effort"
	"harrier/workout"
)

func costs(measure, low, high int, l ...int) string {
	c, e := workout.Costs(api.Block{Measure: measure, Low: low, High: high}, l)
	return told(c, e)
}

func TestG6Costs(t *testing.T) {
	for _, c := range []struct {
		got, want string
	}{
		{costs(1, 180, 220, 171, 179, 180, 200, 220, 221, 231, -1, 0, 1, 440, 441, 1000000000), "[50 5 0 0 0 4 50 1000 1000 994 1000 1000 1000] 0"},
		{costs(2, 100, 100, 99, 100, 101, 150), "[10 0 10 500] 0"},
		{costs(3, 1, 40000, 0, 1, 40000, 40001, 60000, 80000, 79999, -1), "[1000 0 0 0 500 1000 999 1000] 0"},
		{costs(4, 300, 300, 33, 34, 32, 35, 0, 50, 68, -1), "[0 0 30 29 1000 470 1000 1000] 0"},
		{costs(4, 200, 400, 24, 25, 37, 50, 51), "[40 0 0 0 20] 0"},
		{costs(4, 40000, 40000, 0, 1, 2, -1), "[0 0 1000 1000] 0"},               // from 0 to 1
		{costs(4, 10001, 10001, 0, 1, 2, 3), "[0 0 1000 1000] 0"},                // from 0 to 1
		{costs(4, 10000, 10000, 0, 1, 2), "[1000 0 1000] 0"},                     // 1
		{costs(4, 9999, 9999, 0, 1, 2, 3), "[1000 0 0 500] 0"},                   // from 1 to 2
		{costs(4, 1, 1, 10000, 9999, 10001, 11000, 20000), "[0 0 0 100 1000] 0"}, // 10000; 0.1 of a thousandth
		{costs(4, 1, 40000, 0, 10000, 15000), "[0 0 500] 0"},
		{costs(1, 3000, 3000, 2999, 3001, 3003, 2998), "[0 0 1 0] 0"},
		{costs(0, 0, 0, 5, -1, 0), "[0 0 0] 0"},
		{costs(0, 9, 5, 7), "[0] 0"}, {costs(0, -1, 50000, 7), "[0] 0"}, {costs(0, math.MinInt, math.MaxInt, -1), "[0] 0"}, // they do not matter
		{costs(1, 5, 6), "[] 0"}, {costs(0, 0, 0), "[] 0"},
		{costs(-1, 0, 0, -2), "[] 7"}, {costs(5, 5, 6), "[] 7"}, {costs(math.MinInt, 5, 6), "[] 7"}, {costs(math.MaxInt, 5, 6), "[] 7"},
		{costs(1, 0, 6, -2), "[] 9"}, {costs(1, 0, 6, 5), "[] 9"}, {costs(4, 0, 40000), "[] 9"}, {costs(1, 6, 0), "[] 9"}, {costs(2, 1, 40001), "[] 9"}, {costs(3, 40001, 40000), "[] 9"}, {costs(4, math.MinInt, 5), "[] 9"}, {costs(4, 5, math.MaxInt), "[] 9"},
		{costs(1, 6, 5, -2), "[] 10"}, {costs(4, 40000, 39999), "[] 10"},
		{costs(1, 5, 6, 7, -2), "[] 9"}, {costs(0, 0, 0, 1000000001), "[] 9"},
	} {
		want(t, "Costs", c.got, c.want)
	}
	want(t, "a stream that is too long", costs(1, 6, 6, make([]int, effort.MaxStream+1)...), "[] 3")
	want(t, "the order first", costs(1, 7, 6, make([]int, effort.MaxStream+1)...), "[] 10")
	c, e := workout.Costs(api.Block{Measure: 1, Low: 6, High: 6}, slices.Repeat([]int{9}, effort.MaxStream))
	want(t, "the longest stream", told(len(c), slices.Min(c), slices.Max(c), e), "1000000 500 500 0")
	first, e := workout.Costs(api.Block{From: 90, To: 5, Name: "é", Measure: 1, Low: 6, High: 6, First: -5, Last: 100}, []int{9})
	want(t, "what else a block has", told(first, e), "[500] 0")
}

// slowCost follows the words of the document.
func slowCost(b api.Block, n int) int {
	if b.Measure == workout.AimNone {
		return 0
	}
	low, high := b.Low, b.High
	if b.Measure == workout.AimPace {
		low, high = floored(10000, b.High), -floored(-10000, b.Low)
	}
	if n == -1 {
		return 1000
	}
	if n >= low && n <= high {
		return 0
	}
	away, bound := low-n, low
	if n > high {
		away, bound = n-high, high
	}
	return min(floored(1000*away, max(bound, 1)), 1000)
}

func TestG6CostWords(t *testing.T) {
	r := rand.New(rand.NewSource(77))
	for range 5000 {
		most := []int{5, 300, 40000}[r.Intn(3)]
		b := api.Block{Measure: r.Intn(5), Low: 1 + r.Intn(most), High: 1 + r.Intn(most)}
		b.Low, b.High = min(b.Low, b.High), max(b.Low, b.High)
		l := []int{-1, 0, 1, b.Low - 1, b.Low, b.High, b.High + 1, 10000 / b.Low, 10000 / b.High, 1000000000}
		for range 10 {
			l = append(l, r.Intn(3*most)-1)
		}
		var slow []int
		for _, n := range l {
			slow = append(slow, slowCost(b, n))
		}
		c, e := workout.Costs(b, l)
		want(t, fmt.Sprint(b, l), told(c, e), told(slow, 0))
	}
}

func hold(w api.Workout, h api.Athlete, a api.Activity) string {
	x, e := workout.Hold(w, h, a)
	return told(x, e)
}

// powered makes an activity with this power in its seconds.
func powered(l ...int) api.Activity {
	a := api.Activity{Name: "a", Sport: api.Ride}
	for i, n := range append(l, 0) {
		a.Samples = append(a.Samples, api.Sample{At: i, Pulse: -1, Power: n, Steps: -1})
	}
	return a
}

func TestG7Hold(t *testing.T) {
	one, two := step("a", 2, watts(100, 100)), step("b", 2, watts(200, 200))
	rest := step("c", 2, api.Aim{})
	for _, c := range []struct {
		what string
		w    api.Workout
		a    api.Activity
		want string
	}{
		{"just so", workoutOf(one, two), powered(100, 100, 200, 200), "{0 [0 2]} 0"},
		{"one second more", workoutOf(one, two), powered(100, 100, 100, 200, 200), "{100 [0 3]} 0"},
		{"one second less", workoutOf(one, two), powered(100, 200, 200), "{100 [0 1]} 0"},
		{"one is enough", workoutOf(one), powered(100), "{100 [0]} 0"},
		{"a second for each", workoutOf(one, two, one), powered(100, 200, 100), "{300 [0 1 2]} 0"},
		{"a wrong second", workoutOf(one, two), powered(100, 105, 200, 200), "{50 [0 2]} 0"},
		{"wrong seconds", workoutOf(one, two), powered(100, 100, 190, 190, 200, 200), "{300 [0 2]} 0"},
		{"wrong lengths are cheaper", workoutOf(one, two), powered(100, 100, 100, 200), "{200 [0 3]} 0"},
		{"a wrong second is cheaper", workoutOf(one, two), powered(100, 100, 190, 200), "{50 [0 2]} 0"},
		{"a wrong second costs as much", workoutOf(one, rest), powered(100, 120, 1, 1), "{200 [0 1]} 0"},
		{"the first of several", workoutOf(rest, rest), powered(1, 1, 1), "{100 [0 1]} 0"},
		{"the first of several, too long", workoutOf(rest, rest, rest), powered(1, 1, 1, 1, 1, 1, 1), "{100 [0 2 4]} 0"},
		{"the first of several, too short", workoutOf(rest, rest, rest), powered(1, 1, 1, 1), "{200 [0 1 2]} 0"},
		{"unknown seconds", workoutOf(one, rest), powered(100, -1, -1), "{100 [0 1]} 0"},
		{"unknown seconds alone", workoutOf(one), powered(-1, -1, -1), "{3100 [0]} 0"},
		{"a ramp is from Low to High", workoutOf(ramp("a", 3, watts(200, 100))), powered(100, 200, 210), "{50 [0]} 0"},
		{"repeats", workoutOf(repeat(2, one, two)), powered(100, 100, 200, 200, 100, 100, 200, 200), "{0 [0 2 4 6]} 0"},
		{"percents", workoutOf(step("a", 2, percent(1, 50, 50)), step("b", 2, percent(1, 100, 110))), powered(100, 100, 200, 220), "{0 [0 2]} 0"},
		{"a workout that is far too long", workoutOf(step("a", api.MaxSpan-2, watts(100, 100)), two), powered(100, 100, 200, 200), told("{" + fmt.Sprint(100*(api.MaxSpan-4)) + " [0 2]} 0")},
	} {
		want(t, c.what, hold(c.w, ann, c.a), c.want)
	}
}

// TestG7Streams asks for the stream of each measure, and for its seconds in steps that are idle.
func TestG7Streams(t *testing.T) {
	a := api.Activity{Name: "a", Sport: api.Run}
	for i := range 5 {
		a.Samples = append(a.Samples, api.Sample{At: i, X: 30 * i, Z: 7 * i, Pulse: 100 + i, Power: 200 + i, Steps: 80 + i})
	}
	for _, c := range []struct {
		a    api.Aim
		want string
	}{
		{aim(1, 200, 202), "4"}, {aim(2, 100, 102), "9"}, {aim(3, 80, 82), "12"}, {aim(4, 345, 400), "136"}, {aim(4, 334, 400), "0"}, {aim(4, 300, 320), "128"}, {api.Aim{}, "0"},
	} {
		l, e := workout.Hold(workoutOf(step("a", 4, c.a)), ann, a)
		want(t, fmt.Sprint(c.a), told(l, e), "{"+c.want+" [0]} 0")
	}
	a.Samples = []api.Sample{{At: 0, Pulse: 100, Power: 100, Steps: 100}, {At: 61, X: 6100}}
	want(t, "idle", told(hold(workoutOf(step("a", 61, watts(100, 100))), ann, a), hold(workoutOf(step("a", 61, aim(4, 100, 100))), ann, a)), "{61000 [0]} 0 {61000 [0]} 0")
	a.Samples[1].At = 60
	want(t, "not idle", told(hold(workoutOf(step("a", 60, watts(100, 100))), ann, a), hold(workoutOf(step("a", 60, aim(4, 99, 99))), ann, a)), "{0 [0]} 0 {0 [0]} 0")
}

func TestG7Errors(t *testing.T) {
	none := api.Athlete{}
	huge := step("a", api.MaxSpan+1, api.Aim{})
	long := powered(make([]int, 3001)...)
	for _, c := range []struct {
		what string
		w    api.Workout
		h    api.Athlete
		a    api.Activity
		want string
	}{
		{"Check's", workoutOf(), none, api.Activity{}, "{0 []} 13"},
		{"CheckAthlete's", workoutOf(huge), none, api.Activity{}, "{0 []} 9"},
		{"record.Check's", workoutOf(huge), ann, api.Activity{}, "{0 []} 8"},
		{"record.Check's, too", workoutOf(huge), ann, api.Activity{Name: "a"}, "{0 []} 7"},
		{"Timeline's", workoutOf(huge), ann, powered(), "{0 []} 3"},
		{"all steps", workoutOf(many(100, easy())...), ann, powered(make([]int, 99)...), "{0 []} 4"},
		{"one more step", workoutOf(many(101, easy())...), ann, powered(make([]int, 99)...), "{0 []} 3"},
		{"one more step, unrolled", workoutOf(repeat(50, easy(), easy()), easy()), ann, powered(make([]int, 500)...), "{0 []} 3"},
		{"one more second", workoutOf(easy()), ann, long, "{0 []} 3"},
		{"all seconds", workoutOf(easy()), ann, powered(make([]int, 3000)...), "{294000 [0]} 0"},
		{"no samples", workoutOf(easy()), ann, api.Activity{Name: "a", Sport: api.Run}, "{0 []} 4"},
		{"one sample", workoutOf(easy()), ann, powered(), "{0 []} 4"},
		{"a second less than steps", workoutOf(easy(), easy(), easy()), ann, powered(1, 1), "{0 []} 4"},
		{"a second for each step", workoutOf(easy(), easy(), easy()), ann, powered(1, 1, 1), "{17700 [0 1 2]} 0"},
	} {
		want(t, c.what, hold(c.w, c.h, c.a), c.want)
	}
}

// blockCosts returns what the seconds from from on, before to, cost in each block, by the document's words.
func blockCosts(l []api.Block, a api.Activity) func(k, from, to int) int {
	streams := map[int][]int{}
	for measure, kind := range map[int]int{0: api.StreamClimb, 1: api.StreamPower, 2: api.StreamPulse, 3: api.StreamSteps, 4: api.StreamWay} {
		streams[measure], _ = effort.Stream(a, kind)
	}
	return func(k, from, to int) int {
		cost := 100 * max(to-from-(l[k].To-l[k].From), l[k].To-l[k].From-(to-from))
		for _, n := range streams[l[k].Measure][from:to] {
			cost += slowCost(l[k], n)
		}
		return cost
	}
}

// slowHold tries all ways for the first blocks to end at a second, and keeps of each second the one that is best.
func slowHold(l []api.Block, a api.Activity, span int) api.Held {
	cost := blockCosts(l, a)
	type way struct {
		cost   int
		begins []int
	}
	ways := map[int]way{0: {}}
	for k := range l {
		next := map[int]way{}
		for to := k + 1; to <= span; to++ {
			for from := k; from < to; from++ {
				w, ok := ways[from]
				if !ok {
					continue
				}
				x := way{w.cost + cost(k, from, to), append(slices.Clone(w.begins), from)}
				if y, ok := next[to]; !ok || x.cost < y.cost || x.cost == y.cost && slices.Compare(x.begins, y.begins) < 0 {
					next[to] = x
				}
			}
		}
		ways = next
	}
	return api.Held{Cost: ways[span].cost, Begins: ways[span].begins}
}

// slowerHold tries all lists.
func slowerHold(l []api.Block, a api.Activity, span int) api.Held {
	cost := blockCosts(l, a)
	best := api.Held{Cost: math.MaxInt}
	var try func(begins []int, sum int)
	try = func(begins []int, sum int) {
		k, from := len(begins)-1, begins[len(begins)-1]
		if k == len(l)-1 {
			if sum += cost(k, from, span); sum < best.Cost {
				best = api.Held{Cost: sum, Begins: slices.Clone(begins)}
			}
			return
		}
		for to := from + 1; to < span; to++ {
			try(append(slices.Clone(begins), to), sum+cost(k, from, to))
		}
	}
	try([]int{0}, 0)
	return best
}

// randomActivity makes an activity of so many seconds that often holds for some time what it measures.
func randomActivity(r *rand.Rand, span int) api.Activity {
	a := api.Activity{Name: "a", Sport: api.Run, Samples: []api.Sample{{Pulse: 3, Power: 3, Steps: 3}}}
	for at := 0; at < span; {
		x := a.Samples[len(a.Samples)-1]
		if r.Intn(3) == 0 {
			x.Pulse, x.Power, x.Steps = r.Intn(7)-1, r.Intn(7)-1, r.Intn(7)-1
		}
		gap := 1
		if r.Intn(30) == 0 {
			gap = 1 + r.Intn(70)
		}
		at = min(at+gap, span)
		x.At, x.X = at, x.X+r.Intn(7)
		a.Samples = append(a.Samples, x)
	}
	return a
}

// fitting makes a workout for such activities.
func fitting(r *rand.Rand, steps, longest int) api.Workout {
	w := workoutOf()
	for range steps {
		x := step("a", 1+r.Intn(longest), api.Aim{Measure: r.Intn(5)})
		switch low := 1 + r.Intn(5); x.Aim.Measure {
		case workout.AimNone:
		case workout.AimPace:
			x.Aim.Low = 10000 / (low + 2)
			x.Aim.High = 10000 / low
		default:
			x.Aim.Low, x.Aim.High = low, low+r.Intn(2)
		}
		w.Items = append(w.Items, x)
	}
	return w
}

func TestG7HoldWords(t *testing.T) {
	r := rand.New(rand.NewSource(78))
	for n := range 4000 {
		span := 1 + r.Intn(11)
		steps := 1 + r.Intn(min(span, 5))
		w, a := fitting(r, steps, 4), randomActivity(r, span)
		l, _ := workout.Timeline(w, ann)
		slow := slowHold(l, a, span)
		want(t, fmt.Sprint(w, a), hold(w, ann, a), told(slow, 0))
		if n < 1000 {
			want(t, fmt.Sprint(w, a), told(slow), told(slowerHold(l, a, span)))
		}
	}
	for _, n := range []int{30, 60, 90} {
		for _, longest := range []int{1, 5, 20} {
			w, a := fitting(r, 1+r.Intn(15), longest), randomActivity(r, n)
			l, _ := workout.Timeline(w, ann)
			want(t, fmt.Sprint(w, a), hold(w, ann, a), told(slowHold(l, a, n), 0))
		}
	}
}

// doing makes an activity that does what a timeline says.
func doing(r *rand.Rand, l []api.Block) api.Activity {
	a := api.Activity{Name: "a", Sport: api.Run, Samples: []api.Sample{{Pulse: -1, Power: -1, Steps: -1}}}
	for _, b := range l {
		for range b.To - b.From {
			x := &a.Samples[len(a.Samples)-1]
			next := api.Sample{At: x.At + 1, X: x.X + r.Intn(50), Pulse: -1, Power: -1, Steps: -1}
			x.Pulse, x.Power, x.Steps = r.Intn(301), r.Intn(3001), -1
			n := b.Low + r.Intn(b.High-b.Low+1)
			switch b.Measure {
			case workout.AimPower:
				x.Power = n
			case workout.AimPulse:
				x.Pulse = n
			case workout.AimSteps:
				x.Steps = n
			case workout.AimPace:
				next.X = x.X + (10000+r.Intn(n))/n
			}
			a.Samples = append(a.Samples, next)
		}
	}
	return a
}

// TestG7Doing asks for what follows: what does just what the timeline says costs nothing, and its steps begin where the blocks do.
func TestG7Doing(t *testing.T) {
	r := rand.New(rand.NewSource(79))
	long := 0
	for range 200 {
		w := workoutOf()
		end := 0
		for range 1 + r.Intn(100) {
			x := step("a", 1+r.Intn([]int{3, 30, 200}[r.Intn(3)]), randomAim(r, true))
			if x.Kind = 1 + r.Intn(2); x.Kind == 1 && x.Aim.Low > x.Aim.High {
				x.Aim.Low, x.Aim.High = x.Aim.High, x.Aim.Low
			}
			if end += x.Seconds; end > workout.MaxFit {
				break
			}
			w.Items = append(w.Items, x)
		}
		l, e := workout.Timeline(w, ann)
		a := doing(r, l)
		var begins []string
		for _, b := range l {
			begins = append(begins, fmt.Sprint(b.From))
		}
		if l[len(l)-1].To > 2000 {
			long++
		}
		want(t, fmt.Sprint(w), told(hold(w, ann, a), e), "{0 ["+strings.Join(begins, " ")+"]} 0 0")
	}
	if long < 10 {
		t.Error("long ones: ", long)
	}
}

// TestG7Largest holds the longest activity beside the longest workout.
func TestG7Largest(t *testing.T) {
	r := rand.New(rand.NewSource(80))
	w, a := fitting(r, 100, 60), randomActivity(r, 3000)
	x, e := workout.Hold(w, ann, a)
	l, _ := workout.Timeline(w, ann)
	cost, sum := blockCosts(l, a), 0
	for k := range l {
		to := 3000
		if k+1 < len(x.Begins) {
			to = x.Begins[k+1]
		}
		sum += cost(k, x.Begins[k], to)
	}
	want(t, "the largest", told(len(x.Begins), x.Begins[0], x.Cost, e), told(100, 0, sum, 0))
}
