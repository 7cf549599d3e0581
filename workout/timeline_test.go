package workout_test

import (
	"fmt"
	"math"
	"math/rand"
	"testing"

	"harrier/api"
	"harrier/quant"
	"harrier/workout"
)

var ann = api.Athlete{Power: 200, Pulse: 180, Pace: 300}

func timeline(l ...api.Item) string {
	b, e := workout.Timeline(workoutOf(l...), ann)
	return told(b, e)
}

func aimAt(w api.Workout, h api.Athlete, second int) string {
	low, high, e := workout.AimAt(w, h, second)
	return told(low, high, e)
}

// near returns a / b rounded to the nearest number, of two to the greater one.
func near(a, b int) int { return floored(2*a+b, 2*b) }

func TestG5CheckAthlete(t *testing.T) {
	for _, c := range []struct {
		what string
		high int
		h    func(n int) api.Athlete
	}{
		{"Power", 3000, func(n int) api.Athlete { return api.Athlete{Power: n, Pulse: 1, Pace: 36000} }},
		{"Pulse", 300, func(n int) api.Athlete { return api.Athlete{Power: 3000, Pulse: n, Pace: 1} }},
		{"Pace", 36000, func(n int) api.Athlete { return api.Athlete{Power: 1, Pulse: 300, Pace: n} }},
	} {
		for n, e := range map[int]api.Errno{1: 0, c.high: 0, 0: 9, -1: 9, c.high + 1: 9, math.MinInt: 9, math.MaxInt: 9} {
			h := c.h(n)
			_, e1 := workout.Timeline(workoutOf(easy()), h)
			_, _, e2 := workout.AimAt(workoutOf(easy()), h, 5)
			want(t, fmt.Sprint(c.what, " ", n), told(workout.CheckAthlete(h), e1, e2), told(e, e, e))
		}
	}
	_, e1 := workout.Timeline(workoutOf(), api.Athlete{})
	_, e2 := workout.Timeline(workoutOf(step("a", api.MaxSpan+1, api.Aim{})), api.Athlete{})
	want(t, "the workout first, the length last", told(e1, e2), "13 9")
}

func TestG5Example(t *testing.T) {
	w := workoutOf(repeat(2, step("on", 60, percent(1, 90, 110)), step("off", 30, api.Aim{})))
	want(t, "the example", timeline(w.Items...), "[{0 60 on 1 180 220 0 0} {60 90 off 0 0 0 0 0} {90 150 on 1 180 220 0 0} {150 180 off 0 0 0 0 0}] 0")
	want(t, "the ramp", aimAt(workoutOf(ramp("a", 10, watts(100, 200))), ann, 0), "105 105 0")
}

func TestG5Aims(t *testing.T) {
	for _, c := range []struct {
		a    api.Aim
		want string
	}{
		{watts(1, 3000), "1 1 3000"}, {aim(2, 1, 300), "2 1 300"}, {aim(3, 1, 300), "3 1 300"}, {aim(4, 1, 36000), "4 1 36000"},
		{percent(1, 50, 150), "1 100 300"}, {percent(2, 50, 150), "2 90 270"}, {percent(2, 150, 200), "2 270 300"}, {percent(2, 1, 300), "2 2 300"},
		{percent(4, 100, 100), "4 300 300"}, {percent(4, 90, 110), "4 273 333"}, {percent(4, 1, 300), "4 100 30000"}, {percent(4, 160, 200), "4 150 188"}, // 187.5
		{percent(2, 31, 33), "2 56 59"}, // 55.8, 59.4
	} {
		l, e := workout.Timeline(workoutOf(step("a", 5, c.a)), ann)
		want(t, fmt.Sprint(c.a), told(l, e), "[{0 5 a "+c.want+" 0 0}] 0")
	}
	for _, c := range []struct {
		h    api.Athlete
		a    api.Aim
		want string
	}{
		{api.Athlete{Power: 1, Pulse: 1, Pace: 1}, percent(1, 1, 49), "1 1"}, {api.Athlete{Power: 1, Pulse: 1, Pace: 1}, percent(1, 50, 149), "1 1"}, {api.Athlete{Power: 1, Pulse: 1, Pace: 1}, percent(1, 150, 249), "2 2"}, {api.Athlete{Power: 1, Pulse: 1, Pace: 1}, percent(2, 1, 300), "1 3"},
		{api.Athlete{Power: 1, Pulse: 1, Pace: 1}, percent(4, 200, 300), "1 1"}, {api.Athlete{Power: 1, Pulse: 1, Pace: 1}, percent(4, 1, 201), "1 100"},
		{api.Athlete{Power: 3000, Pulse: 300, Pace: 36000}, percent(1, 100, 101), "3000 3000"}, {api.Athlete{Power: 3000, Pulse: 300, Pace: 36000}, percent(1, 99, 300), "2970 3000"}, {api.Athlete{Power: 3000, Pulse: 300, Pace: 36000}, percent(2, 99, 101), "297 300"},
		{api.Athlete{Power: 3000, Pulse: 300, Pace: 36000}, percent(4, 1, 101), "35644 36000"}, {api.Athlete{Power: 3000, Pulse: 300, Pace: 36000}, percent(4, 99, 100), "36000 36000"},
	} {
		l, e := workout.Timeline(workoutOf(step("a", 5, c.a)), c.h)
		if len(l) == 1 {
			want(t, fmt.Sprint(c.h, c.a), told(l[0].Low, l[0].High, e), c.want+" 0")
		}
	}
}

func TestG5Lengths(t *testing.T) {
	for _, c := range []struct {
		what string
		x    api.Item
		want string
	}{
		{"seconds", step("a", 1, api.Aim{}), "[{0 1 a 0 0 0 0 0}] 0"},
		{"a way", over("a", 4000, watts(5, 5)), "[{0 120 a 1 5 5 0 0}] 0"},
		{"a way without an aim", over("a", 10000, api.Aim{}), "[{0 300 a 0 0 0 0 0}] 0"},
		{"a pace", over("a", 4000, aim(4, 200, 200)), "[{0 80 a 4 200 200 0 0}] 0"},
		{"two paces", over("a", 10000, aim(4, 200, 301)), "[{0 250 a 4 200 301 0 0}] 0"},
		{"paces in percent", over("a", 10000, percent(4, 90, 110)), "[{0 303 a 4 273 333 0 0}] 0"},
		{"a ramp of paces", api.Item{Kind: 2, Name: "a", Way: 10000, Aim: percent(4, 90, 110)}, "[{0 303 a 4 273 333 333 273}] 0"},
		{"a ramp of seconds", ramp("a", 77, aim(4, 300, 200)), "[{0 77 a 4 200 300 300 200}] 0"},
		{"a short way", over("a", 16, api.Aim{}), "[{0 1 a 0 0 0 0 0}] 0"},
		{"a very short way", over("a", 1, api.Aim{}), "[{0 1 a 0 0 0 0 0}] 0"},
		{"one and a half", over("a", 50, api.Aim{}), "[{0 2 a 0 0 0 0 0}] 0"},
		{"all seconds", step("a", api.MaxSpan, api.Aim{}), "[{0 1000000 a 0 0 0 0 0}] 0"},
		{"one more", step("a", api.MaxSpan+1, api.Aim{}), "[] 3"},
		{"together too many", repeat(2, step("a", api.MaxSpan/2, api.Aim{}), repeat(1, over("b", 1, api.Aim{}))), "[] 3"},
		{"far too many", repeat(99, over("a", quant.MaxDistance, aim(4, 36000, 36000))), "[] 3"},
		{"all ways that there are", over("a", 33333350, api.Aim{}), "[] 3"},
		{"a bit less", over("a", 33333349, api.Aim{}), "[{0 1000000 a 0 0 0 0 0}] 0"},
	} {
		want(t, c.what, timeline(c.x), c.want)
	}
}

// slowBlocks follows the words of the document.
func slowBlocks(l []api.Item, h api.Athlete, from int) []api.Block {
	var out []api.Block
	for _, x := range l {
		if x.Kind == workout.ItemRepeat {
			for range x.Times {
				more := slowBlocks(x.Items, h, from)
				out, from = append(out, more...), more[len(more)-1].To
			}
			continue
		}
		var n [2]int
		for i, m := range []int{x.Aim.Low, x.Aim.High} {
			if x.Aim.Percent {
				m = []int{0, near(h.Power*m, 100), near(h.Pulse*m, 100), 0, near(100*h.Pace, m)}[x.Aim.Measure]
				m = min(max(m, 1), []int{0, 3000, 300, 300, 36000}[x.Aim.Measure])
			}
			n[i] = m
		}
		b := api.Block{From: from, Name: x.Name, Measure: x.Aim.Measure, Low: min(n[0], n[1]), High: max(n[0], n[1])}
		if x.Kind == workout.ItemRamp {
			b.First, b.Last = n[0], n[1]
		}
		b.To = from + x.Seconds
		if x.Way > 0 {
			pace := h.Pace
			if x.Aim.Measure == workout.AimPace {
				pace = (n[0] + n[1]) / 2
			}
			b.To = from + max(near(x.Way*pace, 10000), 1)
		}
		out, from = append(out, b), b.To
	}
	return out
}

// slowAim follows the words of the document.
func slowAim(l []api.Block, second int) string {
	for _, b := range l {
		if second < b.From || second >= b.To {
			continue
		}
		if b.First == 0 {
			return told(b.Low, b.High, 0)
		}
		n, j := b.To-b.From, second-b.From
		m := near(b.First*2*n+(b.Last-b.First)*(2*j+1), 2*n)
		return told(m, m, 0)
	}
	return "0 0 9"
}

func TestG5TimelineWords(t *testing.T) {
	r := rand.New(rand.NewSource(76))
	right, wrong := 0, 0
	for range 4000 {
		w := randomWorkout(r)
		h := api.Athlete{Power: 1 + r.Intn(3000), Pulse: 1 + r.Intn(300), Pace: 1 + r.Intn(600)}
		if r.Intn(3) > 0 { // most of them have ends that are not too late
			items, _ := places(w.Items, 0)
			for _, x := range items {
				x.Seconds, x.Way = x.Seconds%5000, x.Way%50000
				if x.Kind != workout.ItemRepeat && x.Seconds == 0 && x.Way == 0 {
					x.Way = 5
				}
			}
		}
		l, e := workout.Timeline(w, h)
		slow := slowBlocks(w.Items, h, 0)
		end := slow[len(slow)-1].To
		if end > api.MaxSpan {
			want(t, fmt.Sprint(w, h), told(l, e, aimAt(w, h, 0)), "[] 3 0 0 3")
			wrong++
			continue
		}
		right++
		want(t, fmt.Sprint(w, h), told(l, e), told(slow, 0))
		for _, second := range []int{0, 1, end - 1, end, -1, math.MinInt, math.MaxInt, r.Intn(end), r.Intn(end), r.Intn(end), slow[len(slow)-1].From, slow[len(slow)/2].To - 1} {
			want(t, fmt.Sprint(w, h, second), aimAt(w, h, second), slowAim(slow, second))
		}
	}
	if right < 500 || wrong < 500 {
		t.Error("not often: ", right, wrong)
	}
}

func TestG5AimAt(t *testing.T) {
	w := workoutOf(step("a", 5, watts(150, 160)), ramp("b", 4, watts(10, 20)), ramp("c", 3, watts(20, 10)), step("d", 1, api.Aim{}), ramp("e", 1, watts(7, 8)), ramp("f", 1, watts(8, 7)), ramp("g", 2, watts(5, 5)))
	for second, wanted := range []string{
		"150 160", "150 160", "150 160", "150 160", "150 160",
		"11 11", "14 14", "16 16", "19 19", // 11.25, 13.75, 16.25, 18.75
		"18 18", "15 15", "12 12", // 18.33, 15, 11.67
		"0 0", "8 8", "8 8", "5 5", "5 5", // both 7.5
	} {
		want(t, fmt.Sprint(second), aimAt(w, ann, second), wanted+" 0")
	}
	want(t, "too early", aimAt(w, ann, -1), "0 0 9")
	want(t, "too late", aimAt(w, ann, 17), "0 0 9")
	want(t, "the athlete first", aimAt(w, api.Athlete{}, 17), "0 0 9")
	want(t, "the length first", aimAt(workoutOf(step("a", api.MaxSpan, api.Aim{}), easy()), ann, -1), "0 0 3")
	w = workoutOf(ramp("a", api.MaxSpan, aim(4, 36000, 1)))
	want(t, "a long ramp", told(aimAt(w, ann, 0), aimAt(w, ann, 14), aimAt(w, ann, 999999)), "36000 36000 0 35999 35999 0 1 1 0")
	w = workoutOf(ramp("a", 10, percent(4, 90, 110)))
	want(t, "percents of a pace", told(aimAt(w, ann, 0), aimAt(w, ann, 9)), "330 330 0 276 276 0")
}
