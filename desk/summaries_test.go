package desk_test

import (
	"fmt"
	"math/rand"
	"reflect"
	"slices"
	"strings"
	"testing"

	"harrier/api"
	"harrier/desk"
	"harrier/effort"
	"harrier/load"
	"harrier/quant"
	"harrier/track"
)

var ann = api.Athlete{Power: 250, Pulse: 180, Pace: 300}

// steady has a sample each so many seconds, from which on a pulse and a power are the same.
func steady(seconds, each, pulse, power int) api.Activity {
	a := api.Activity{Name: "a", Sport: api.Ride}
	return extended(a, seconds, each, pulse, power)
}

// extended goes on for so many seconds with another pulse and another power.
func extended(a api.Activity, seconds, each, pulse, power int) api.Activity {
	last := len(a.Samples) - 1
	if last < 0 {
		a.Samples = []api.Sample{sample(0, 0, 0, 0)}
		last = 0
	}
	begin := a.Samples[last].At
	for at := 0; at < seconds; at += each {
		a.Samples[last].Pulse, a.Samples[last].Power = pulse, power
		a.Samples = append(a.Samples, sample(begin+min(at+each, seconds), 0, 0, 0))
		last++
	}
	return a
}

func TestM2LoadOfPower(t *testing.T) {
	for _, c := range []struct {
		what   string
		a      api.Activity
		power  int
		wanted string
	}{
		{"an hour at the threshold", steady(3600, 60, -1, 250), 250, "100 0"},
		{"the other fields of the athlete", steady(3600, 60, 170, 250), 250, "100 0"},
		{"half an hour", extended(steady(1800, 60, -1, 250), 1800, 60, -1, -1), 250, "50 0"},
		{"rounded down", steady(3599, 60, -1, 250), 250, "99 0"},
		{"half of the threshold", steady(3600, 60, -1, 125), 250, "25 0"},
		{"half a minute", steady(30, 30, 180, 2000), 250, "53 0"},
		{"nothing done", steady(3600, 60, 180, 0), 250, "0 0"},
		{"hard at first", extended(steady(1800, 60, -1, 300), 1800, 60, -1, 100), 250, "92 0"},
		{"just the most", steady(3600, 60, -1, 2500), 250, "10000 0"},
		{"more than the most", steady(3660, 60, -1, 2500), 250, "10000 0"},
		{"much more", steady(1_000_000, 60, -1, 3000), 1, "10000 0"},
	} {
		h := ann
		h.Power = c.power
		want(t, c.what, told(desk.LoadOf(c.a, h)), c.wanted)
	}
}

func TestM2LoadOfPulse(t *testing.T) {
	for pulse, wanted := range map[int]string{-1: "0 0", 0: "0 0", 107: "0 0", 108: "50 0", 143: "50 0", 144: "100 0", 161: "100 0", 162: "200 0", 300: "200 0"} {
		want(t, fmt.Sprint("a minute at ", pulse), told(desk.LoadOf(steady(60, 60, pulse, -1), ann)), wanted)
	}
	h := ann
	h.Pulse = 179
	for pulse, wanted := range map[int]string{106: "0 0", 107: "50 0", 142: "50 0", 143: "100 0", 160: "100 0", 161: "200 0"} {
		want(t, fmt.Sprint("limits rounded down, at ", pulse), told(desk.LoadOf(steady(60, 60, pulse, -1), h)), wanted)
	}
	all := extended(extended(extended(steady(7, 7, 90, -1), 11, 11, 120, -1), 13, 13, 150, -1), 17, 17, 170, -1)
	want(t, "all zones", told(desk.LoadOf(all, ann)), told((11*50+13*100+17*200)/60, 0))
	want(t, "a power that tells nothing", told(desk.LoadOf(steady(29, 29, 170, 250), ann)), "96 0")
	want(t, "powers of which no half minute is known", told(desk.LoadOf(extended(extended(steady(29, 29, 170, 250), 1, 1, 170, -1), 29, 29, 170, 250), ann)), "196 0")
	want(t, "a power that tells something", told(desk.LoadOf(steady(30, 30, 170, 250), ann)), "0 0")
	want(t, "just the most", told(desk.LoadOf(steady(3000, 60, 170, -1), ann)), "10000 0")
	want(t, "less", told(desk.LoadOf(steady(2999, 60, 170, -1), ann)), "9996 0")
	want(t, "more than the most", told(desk.LoadOf(steady(3060, 60, 170, -1), ann)), "10000 0")
	want(t, "a pause", told(desk.LoadOf(steady(61, 61, 170, 250), ann)), "0 0")
	want(t, "no samples", told(desk.LoadOf(api.Activity{Name: "a", Sport: 1}, ann)), "0 0")
}

// TestM2LoadOfErrors has one thing wrong after the other, and all that was wrong before too.
func TestM2LoadOfErrors(t *testing.T) {
	a, h := steady(60, 60, 150, 250), ann
	for _, c := range []struct {
		wanted string
		spoil  func()
	}{
		{"1 0", func() {}},
		{"1 0", func() { h.Pulse = 6 }},
		{"0 10", func() { h.Pulse = 5 }},
		{"0 10", func() { h.Pulse = 1 }},
		{"0 9", func() { h.Pace = 0 }},
		{"0 10", func() { a.Samples[0].At = 1 }},
		{"0 7", func() { a.Sport = 0 }},
		{"0 8", func() { a.Name = "" }},
	} {
		c.spoil()
		want(t, told(a, h), told(desk.LoadOf(a, h)), c.wanted)
	}
	a = steady(60, 60, 150, 250)
	for _, h := range []api.Athlete{{Power: 0, Pulse: 180, Pace: 300}, {Power: 3001, Pulse: 180, Pace: 300}, {Power: 250, Pulse: 0, Pace: 300}, {Power: 250, Pulse: 301, Pace: 300}, {Power: 250, Pulse: 180, Pace: 36_001}, {}, {Power: 250, Pulse: 1 << 62, Pace: 300}} {
		want(t, fmt.Sprint(h), told(desk.LoadOf(a, h)), "0 9")
		text, e := desk.Summary(a, h, api.Zone{})
		want(t, fmt.Sprint("Summary ", h), told(text, e), " 9")
	}
	for pulse := 1; pulse <= 5; pulse++ {
		want(t, fmt.Sprint("limits of ", pulse), told(desk.LoadOf(api.Activity{Name: "a", Sport: 1}, api.Athlete{Power: 1, Pulse: pulse, Pace: 1})), "0 10")
	}
}

// line returns the first line of a summary that begins with a word.
func line(t *testing.T, a api.Activity, word string) string {
	t.Helper()
	s, e := desk.Summary(a, ann, api.Zone{})
	want(t, fmt.Sprint(a), told(e), "0")
	for _, x := range strings.Split(s, "\n") {
		if strings.HasPrefix(x, word+" ") {
			return x
		}
	}
	return ""
}

func TestM2Summary(t *testing.T) {
	a := full()
	a.Samples[1].Y = -65
	a.Samples[2] = sample(71, 330, -440, 8)
	want(t, "all lines", told(desk.Summary(a, ann, api.Zone{First: 60})), `full 2 2000-01-03 01:01:40
time 1:11 moving 0:10
way 54.7 m up 20 down 19
pace 3:03/km
load 8
pulse 120 120
power 0 0 -
best 5 0
lap 0:05 3.3 m a b  c 
lap 0:20 3.4 m 
 0`)
	want(t, "no samples", told(desk.Summary(api.Activity{Name: "a", Sport: 3, Start: api.MaxMoment}, ann, api.Zone{})), `a 3 4737-11-29 23:59:59
time 0:00 moving 0:00
way 0 m up 0 down 0
pace -
load 0
 0`)
	long := extended(steady(1200, 60, 150, 260), 6000, 60, -1, 200)
	for i := range long.Samples {
		long.Samples[i].X = 6000 * i
	}
	long.Laps = []api.Lap{{From: 10, To: 3700, Name: "most of it"}}
	want(t, "a long one", told(desk.Summary(long, ann, api.Zone{First: 840, Changes: []api.Change{{From: 1, Offset: 0}}})), `a 2 2000-01-03 14:00:00
time 2:00:00 moving 2:00:00
way 72 km up 0 down 0
pace 1:40/km
load 143
pulse 150 150
power 210 260 212
best 5 260
best 60 260
best 300 260
best 1200 260
lap 1:01:30 36.9 km most of it
 0`)
}

func TestM2Moving(t *testing.T) {
	steps := func(l ...[2]int) api.Activity {
		a := api.Activity{Name: "a", Sport: 1, Samples: []api.Sample{sample(0, 0, 0, 0)}}
		at, x := 0, 0
		for _, s := range l {
			at, x = at+s[0], x+s[1]
			a.Samples = append(a.Samples, sample(at, x, 0, 0))
		}
		return a
	}
	for _, c := range []struct {
		what   string
		a      api.Activity
		wanted string
	}{
		{"slow", steps([2]int{10, 50}), "time 0:10 moving 0:00"},
		{"fast enough", steps([2]int{10, 51}), "time 0:10 moving 0:10"},
		{"slow for a short time", steps([2]int{9, 45}), "time 0:09 moving 0:09"},
		{"slow for short times that are neighbours", steps([2]int{5, 25}, [2]int{5, 0}), "time 0:10 moving 0:00"},
		{"with a step between", steps([2]int{9, 45}, [2]int{1, 6}, [2]int{9, 0}), "time 0:19 moving 0:19"},
		{"a long step", steps([2]int{60, 1000}), "time 1:00 moving 1:00"},
		{"an idle one", steps([2]int{61, 1000}), "time 1:01 moving 0:00"},
		{"an idle one and a still one", steps([2]int{61, 0}, [2]int{10, 1000}), "time 1:11 moving 0:10"},
	} {
		want(t, c.what, line(t, c.a, "time"), c.wanted)
	}
	for _, c := range []struct {
		what   string
		a      api.Activity
		wanted string
	}{
		{"no way", steps([2]int{9, 0}), "pace -"},
		{"no time", steps([2]int{61, 1000}), "pace -"},
		{"too slow", steps([2]int{9, 2}), "pace -"},
		{"slow", steps([2]int{9, 3}), "pace 500:00/km"},
		{"rounded up", steps([2]int{3, 20_000}), "pace 0:02/km"},
		{"rounded down", steps([2]int{2, 14_000}), "pace 0:01/km"},
		{"too fast", steps([2]int{1, 20_001}), "pace -"},
		{"by all of the way", steps([2]int{61, 1000}, [2]int{10, 1000}), "pace 0:50/km"},
	} {
		want(t, c.what, line(t, c.a, "pace"), c.wanted)
	}
}

func TestM2Ways(t *testing.T) {
	heights := func(l ...int) api.Activity {
		a := api.Activity{Name: "a", Sport: 1}
		for i, z := range l {
			a.Samples = append(a.Samples, sample(i, 0, 0, z))
		}
		return a
	}
	for _, c := range []struct {
		a      api.Activity
		wanted string
	}{
		{heights(0, 10, 0), "way 0 m up 0 down 0"},
		{heights(0, 11, 0), "way 0 m up 11 down 11"},
		{heights(0, 30, 10, 50), "way 0 m up 50 down 0"},
		{heights(0, 30, 9, 50), "way 0 m up 71 down 21"},
		{heights(7, -20_000, 30_000), "way 0 m up 50000 down 20007"},
		{heights(5), "way 0 m up 0 down 0"},
	} {
		want(t, "heights", line(t, c.a, "way"), c.wanted)
	}
	wide := func(steps, more int) api.Activity {
		a := api.Activity{Name: "a", Sport: 1}
		for i := range steps + 1 {
			a.Samples = append(a.Samples, sample(i, 200_000_000*(i%2)-100_000_000, 0, 0))
		}
		a.Samples[steps].X += more
		return a
	}
	want(t, "far", line(t, wide(5, 0), "way"), "way 100000 km up 0 down 0")
	want(t, "too far", told(desk.Summary(wide(6, 0), ann, api.Zone{})), " 9")
	want(t, "a bit too far", told(desk.Summary(wide(6, 200_000_000-1), ann, api.Zone{})), " 9")
	want(t, "not too far", line(t, wide(6, 200_000_000), "way"), "way 100000 km up 0 down 0")
}

func TestM2Streams(t *testing.T) {
	mixed := extended(extended(extended(steady(1, 1, 100, 100), 1, 1, -1, -1), 1, 1, 103, 103), 1, 1, 102, 101)
	want(t, "rounded up", line(t, mixed, "pulse"), "pulse 102 103")
	want(t, "rounded down", line(t, mixed, "power"), "power 101 103 -")
	half := extended(steady(1, 1, 100, 7), 1, 1, 101, 8)
	want(t, "a half", line(t, half, "pulse"), "pulse 101 101")
	want(t, "a half of power", line(t, half, "power"), "power 8 8 -")
	want(t, "nothing known", line(t, steady(60, 60, -1, -1), "pulse")+line(t, steady(60, 60, -1, -1), "power"), "")
	want(t, "known by the last sample alone", line(t, api.Activity{Name: "a", Sport: 1, Samples: []api.Sample{{Pulse: 100, Power: 100, Steps: 1}}}, "pulse"), "")
	want(t, "nothing but 0", line(t, steady(60, 60, 0, 0), "pulse")+line(t, steady(60, 60, 0, 0), "power"), "pulse 0 0power 0 0 0")
	want(t, "no hard half minute", line(t, steady(29, 29, -1, 100), "power"), "power 100 100 -")
	want(t, "a hard half minute", line(t, steady(30, 30, -1, 100), "power"), "power 100 100 100")
	want(t, "harder than the mean", line(t, extended(steady(60, 60, -1, 300), 60, 60, -1, 100), "power"), "power 200 300 233")
	want(t, "pulse is not hard", line(t, steady(3600, 60, 150, -1), "pulse"), "pulse 150 150")
}

func TestM2Bests(t *testing.T) {
	for seconds, sizes := range map[int][]int{4: nil, 5: {5}, 59: {5}, 60: {5, 60}, 299: {5, 60}, 300: {5, 60, 300}, 1199: {5, 60, 300}, 1200: {5, 60, 300, 1200}} {
		wanted := ""
		for _, size := range sizes {
			wanted += fmt.Sprintf("best %d 100\n", size)
		}
		s, e := desk.Summary(steady(seconds, 60, 99, 100), ann, api.Zone{})
		lines := strings.SplitAfter(s, "\n")
		want(t, fmt.Sprint(seconds), told(strings.Join(lines[7:], ""), e), wanted+" 0")
	}
	want(t, "rounded down", line(t, extended(steady(4, 4, -1, 100), 1, 1, -1, 104), "best"), "best 5 100")
	want(t, "rounded down, nearly", line(t, extended(steady(1, 1, -1, 100), 4, 4, -1, 101), "best"), "best 5 100")
	want(t, "the best one", line(t, extended(extended(steady(9, 9, -1, 50), 3, 3, -1, 100), 9, 9, -1, 60), "best"), "best 5 84")
	want(t, "with an unknown second", line(t, extended(extended(steady(4, 4, -1, 50), 1, 1, -1, -1), 4, 4, -1, 60), "best"), "")
}

// TestM2Errors has one thing wrong after the other, and all that was wrong before too.
func TestM2Errors(t *testing.T) {
	a, h, z := full(), ann, api.Zone{}
	for _, c := range []struct {
		what, wanted string
		spoil        func()
	}{
		{"nothing", "true 0", func() {}},
		{"limits", "false 10", func() { h.Pulse = 3 }},
		{"a way that is too far", "false 9", func() {
			for i := range 5 {
				a.Samples = append(a.Samples, sample(30+i, 100_000_000*(i%2*2-1), 100_000_000*(i%2*2-1), 0))
			}
		}},
		{"a moment that no clock shows", "false 9", func() { a.Start, z.First = 0, -1 }},
		{"a zone", "false 3", func() { z.Changes = make([]api.Change, 201) }},
		{"an athlete", "false 9", func() { h.Power = 0 }},
		{"a lap", "false 10", func() { a.Laps[1].From = 4 }},
		{"a name", "false 8", func() { a.Name = "" }},
	} {
		c.spoil()
		s, e := desk.Summary(a, h, z)
		want(t, c.what, told(s != "", e), c.wanted)
	}
	a, h = full(), ann
	a.Start, h.Pulse = api.MaxMoment-25, 3
	want(t, "a moment that is too late, and limits", told(desk.Summary(a, h, api.Zone{First: 1})), " 9")
	want(t, "a wrong zone", told(desk.Summary(a, h, api.Zone{First: 841})), " 9")
	want(t, "a zone without order", told(desk.Summary(a, ann, api.Zone{Changes: []api.Change{{From: 5}, {From: 5}}})), " 10")
}

// slowSummary puts together what the document tells of each line; the activity, the athlete and the zone are right.
func slowSummary(a api.Activity, h api.Athlete, z api.Zone) string {
	text := func(s string, e api.Errno) string { return s }
	number := func(n int, e api.Errno) int { return n }
	ways, _ := track.Ways(a)
	span := 0
	if n := len(a.Samples); n > 0 {
		span = a.Samples[n-1].At
	}
	way := append([]int{0}, ways...)[len(ways)]
	moving := number(track.Moving(a, 60, 5, 10))
	climb, _ := track.Climb(a, 20)
	s := fmt.Sprintf("%s %d %s\n", a.Name, a.Sport, text(quant.StampText(z, a.Start)))
	s += fmt.Sprintf("time %s moving %s\n", text(quant.DurationText(span)), text(quant.DurationText(moving)))
	s += fmt.Sprintf("way %s up %d down %d\n", text(quant.DistanceText(way)), climb.Up, climb.Down)
	if pace, e := quant.PaceOf(way, moving); e != api.OK {
		s += "pace -\n"
	} else {
		s += fmt.Sprintf("pace %s\n", text(quant.PaceText(pace)))
	}
	s += fmt.Sprintf("load %d\n", slowLoad(a, h))
	pulse, _ := effort.Stream(a, api.StreamPulse)
	power, _ := effort.Stream(a, api.StreamPower)
	s += slowStream("pulse", pulse, "") + slowStream("power", power, " -")
	if hard, ok, _ := effort.Hard(power); ok {
		s = strings.Replace(s, " -\n", fmt.Sprintf(" %d\n", hard), 1)
	}
	curve, _ := effort.Curve(power, []int{5, 60, 300, 1200})
	for _, x := range curve {
		if x.Found {
			s += fmt.Sprintf("best %d %d\n", x.Size, x.Sum/x.Size)
		}
	}
	for _, x := range a.Laps {
		part, _ := effort.PartOf(a, x.From, x.To)
		s += fmt.Sprintf("lap %s %s %s\n", text(quant.DurationText(x.To-x.From)), text(quant.DistanceText(part.Way)), x.Name)
	}
	return s
}

func slowStream(word string, l []int, end string) string {
	l = slices.DeleteFunc(slices.Clone(l), func(n int) bool { return n == -1 })
	if len(l) == 0 {
		return ""
	}
	sum := 0
	for _, n := range l {
		sum += n
	}
	return fmt.Sprintf("%s %d %d%s\n", word, (2*sum+len(l))/(2*len(l)), slices.Max(l), end)
}

// slowLoad looks at each second by itself.
func slowLoad(a api.Activity, h api.Athlete) int {
	power, _ := effort.Stream(a, api.StreamPower)
	if n, ok, _ := load.Power(power, h.Power); ok {
		return min(n, 10_000)
	}
	pulse, _ := effort.Stream(a, api.StreamPulse)
	sum := 0
	for _, n := range pulse {
		switch {
		case n >= h.Pulse*90/100:
			sum += 200
		case n >= h.Pulse*80/100:
			sum += 100
		case n >= h.Pulse*60/100:
			sum += 50
		}
	}
	return min(sum/60, 10_000)
}

func TestM2Random(t *testing.T) {
	r := rand.New(rand.NewSource(132))
	for range 3000 {
		a := randomActivity(r, "a")
		for i := 1; i < len(a.Samples); i++ {
			// The pace of few is none: its `-` stands ahead of the others.
			a.Samples[i].X = a.Samples[i-1].X + r.Intn(10)*(a.Samples[i].At-a.Samples[i-1].At)
		}
		h := api.Athlete{Power: 1 + r.Intn(300), Pulse: 6 + r.Intn(200), Pace: 300}
		z := api.Zone{First: r.Intn(500), Changes: []api.Change{{From: r.Intn(200_000), Offset: r.Intn(500)}}}
		load, e := desk.LoadOf(a, h)
		want(t, fmt.Sprint(a, h), told(load, e), told(slowLoad(a, h), 0))
		before := fmt.Sprint(a, z)
		s, e := desk.Summary(a, h, z)
		wanted := slowSummary(a, h, z)
		if strings.Contains(s, "pace -") {
			continue
		}
		want(t, fmt.Sprint(a, h, z), told(s, e), told(wanted, 0))
		want(t, "arguments", fmt.Sprint(a, z), before)
	}
}

// TestM2Arguments asks whether an activity stays as it was, with its unused memory.
func TestM2Arguments(t *testing.T) {
	a := steady(3600, 60, 150, 250)
	a.Laps = append(make([]api.Lap, 0, 5), api.Lap{From: 0, To: 9})
	b := steady(3600, 60, 150, 250)
	b.Laps = []api.Lap{{From: 0, To: 9}}
	desk.Summary(a, ann, api.Zone{})
	desk.LoadOf(a, ann)
	if !reflect.DeepEqual(a, b) || !reflect.DeepEqual(a.Laps[:5][1:], make([]api.Lap, 4)) {
		t.Error("arguments were changed")
	}
}
