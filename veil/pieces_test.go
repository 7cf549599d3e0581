package veil_test

import (
	"fmt"
	"math/rand"
	"slices"
	"testing"

	"harrier/api"
	"harrier/record"
	"harrier/veil"
)

// hiddenBy writes what Hidden tells of samples, with an x for each one that is hidden.
func hiddenBy(v api.Veil, level int, a api.Activity) string {
	l, all, e := veil.Hidden(v, level, a)
	s := ""
	for _, x := range l {
		if x {
			s += "x"
		} else {
			s += "."
		}
	}
	return told(s, all, e)
}

func TestJ2Places(t *testing.T) {
	a := walk([]int{0, 10, 20}, []int{1, 13, 24}, []int{2, 14, 24}, []int{3, 5, 20}, []int{4, 10, 15}, []int{5, 10, 14}, []int{6, 7, 16}, []int{7, 6, 16})
	want(t, "the edge belongs to it", hiddenBy(veilOf(place(1, 10, 20, 5)), 1, a), "xx.xx.x. false 0")
	want(t, "no distance", hiddenBy(veilOf(place(1, 10, 20, 0)), 1, a), "x....... false 0")
	want(t, "all", hiddenBy(veilOf(place(1, 0, 0, 1_000_000)), 1, a), "xxxxxxxx false 0")
	want(t, "two places", hiddenBy(veilOf(place(1, 10, 20, 0), place(1, 6, 16, 1)), 1, a), "x.....xx false 0")
	far := walk([]int{0, -api.MaxPlace, -api.MaxPlace}, []int{1, api.MaxPlace, api.MaxPlace}, []int{2, api.MaxPlace - 600_000, api.MaxPlace - 800_000}, []int{3, api.MaxPlace - 600_001, api.MaxPlace - 800_000})
	want(t, "far away", hiddenBy(veilOf(place(1, api.MaxPlace, api.MaxPlace, 1_000_000)), 1, far), ".xx. false 0")
	want(t, "far below", hiddenBy(veilOf(place(1, -api.MaxPlace, -api.MaxPlace, 0)), 1, far), "x... false 0")
}

func TestJ2Hours(t *testing.T) {
	a := walk([]int{0}, []int{1}, []int{2}, []int{3}, []int{4}, []int{5})
	a.Start = 86400*11 - 3
	want(t, "both ends belong to it", hiddenBy(veilOf(hours(1, 86398, 86399)), 1, a), ".xx... false 0")
	want(t, "of the next day", hiddenBy(veilOf(hours(1, 0, 1)), 1, a), "...xx. false 0")
	want(t, "both", hiddenBy(veilOf(hours(1, 0, 0), hours(1, 86399, 86399)), 1, a), "..xx.. false 0")
	want(t, "a whole day", hiddenBy(veilOf(hours(1, 0, 86399)), 1, a), "xxxxxx false 0")
	want(t, "not the hours of the rule alone", hiddenBy(veilOf(hours(1, 3, 86396)), 1, a), "...... false 0")
	a.Start = api.MaxMoment - 5
	want(t, "the last day", hiddenBy(veilOf(hours(1, 86395, 86396)), 1, a), ".xx... false 0")
}

func TestJ2Activities(t *testing.T) {
	a := full()
	for _, c := range []struct {
		r    api.VeilRule
		want string
	}{
		{tag(1, "hill"), "xxxxx true 0"}, {tag(1, "town"), "xxxxx true 0"}, {tag(1, "hil"), "..... false 0"}, {tag(1, "walk"), "..... false 0"}, {tag(1, "Hill"), "..... false 0"},
		{sport(1, api.Walk), "xxxxx true 0"}, {sport(1, api.Run), "..... false 0"},
		{field(1, api.FieldPulse), "..... false 0"}, {day(1), "..... false 0"}, {name(1), "..... false 0"}, {grid(1, 1000), "..... false 0"},
	} {
		want(t, told(c.r), hiddenBy(veilOf(c.r), 1, a), c.want)
		want(t, told(c.r)+", with a place", hiddenBy(veilOf(place(1, 0, 0, 5), c.r), 3, a), map[bool]string{true: c.want, false: "x.... false 0"}[c.want[0] == 'x'])
	}
	none := walk()
	want(t, "no samples, hidden", hiddenBy(veilOf(sport(1, api.Walk)), 1, none), " true 0")
	want(t, "no samples", hiddenBy(veilOf(sport(1, api.Run), place(1, 0, 0, 9)), 1, none), " false 0")
}

// TestJ2Levels asks from which level on a rule applies.
func TestJ2Levels(t *testing.T) {
	a := walk([]int{0, 0, 0})
	for from := 1; from <= veil.MaxLevel; from++ {
		for level := 0; level <= veil.MaxLevel; level++ {
			what := told("from", from, "level", level)
			applies := map[bool]string{true: "x", false: "."}[level >= from]
			want(t, what, hiddenBy(veilOf(place(from, 0, 0, 0)), level, a), applies+" false 0")
			want(t, what, hiddenBy(veilOf(sport(from, api.Walk)), level, a), told(applies, level >= from, 0))
			l, _ := veil.See(veilOf(name(from), day(from), sport(from, api.Walk)), level, a)
			want(t, what, told(len(l) == 0), told(level >= from))
			l, _ = veil.See(veilOf(name(from), day(from), grid(from, 5), field(from, 1)), level, a)
			want(t, what, told(l[0].Name, l[0].Start), map[bool]string{true: "activity 0", false: "walk 1000"}[level >= from])
		}
	}
}

func TestJ3Pauses(t *testing.T) {
	a := walk([]int{0}, []int{60}, []int{121}, []int{122}, []int{182}, []int{183}, []int{300_000})
	l, e := veil.See(api.Veil{}, 0, a)
	want(t, "pauses", ats(l)+told(e), "1000: 0 60; 1121: 0 1 61 62; 301000: 0; 0")
	b := walk([]int{0, 1}, []int{30}, []int{60, 1}, []int{90}, []int{121, 1}, []int{122}, []int{181, 1})
	l, e = veil.See(veilOf(place(1, 0, 0, 0)), 1, b)
	want(t, "what is hidden makes pauses", ats(l)+told(e), "1000: 0 60; 1121: 0 60; 0")
	l, e = veil.See(veilOf(place(1, 0, 0, 0)), 0, b)
	want(t, "nothing is hidden from oneself", ats(l)+told(e), "1000: 0 30 60 90 121 122 181; 0")
	l, e = veil.See(veilOf(place(1, 0, 0, 1)), 1, b)
	want(t, "all is hidden", ats(l)+told(e), "0")
	l, e = veil.See(api.Veil{}, 0, walk())
	want(t, "no samples", ats(l)+told(e), "0")
	c := walk([]int{0}, []int{20}, []int{40, 1}, []int{60})
	l, e = veil.See(veilOf(place(1, 0, 0, 0)), 1, c)
	want(t, "both ends are hidden", ats(l)+told(e), "1040: 0; 0")
}

func TestJ3Laps(t *testing.T) {
	a := full()
	want(t, "two pieces", told(veil.See(api.Veil{}, 0, a)),
		"[{walk 4 1000 [{0 0 0 10 100 200 80} {10 100 0 20 101 201 81} {20 200 0 15 102 202 82}] [{0 10 up} {10 20 down}] [hill town]} {walk 4 1100 [{0 300 50 30 103 203 83} {10 305 55 31 104 204 84}] [{0 10 home}] [hill town]}] 0")
	a.Laps = []api.Lap{{From: 0, To: 9, Name: "short"}, {From: 9, To: 20, Name: "late"}, {From: 20, To: 100, Name: "between"}, {From: 100, To: 109, Name: "no end"}}
	l, _ := veil.See(api.Veil{}, 0, a)
	want(t, "laps between samples", told(l[0].Laps, l[1].Laps), "[] []")
	a.Laps = []api.Lap{{From: 0, To: 20, Name: "all"}, {From: 20, To: 110, Name: "rest"}}
	l, _ = veil.See(veilOf(place(1, 100, 0, 0)), 1, a)
	want(t, "something is hidden within", told(l[0].Laps, l[1].Laps), "[{0 20 all}] []")
	l, _ = veil.See(veilOf(place(1, 0, 0, 0)), 1, a)
	want(t, "the beginning is hidden", told(l[0].Laps, len(l[0].Samples)), "[] 2")
	l, _ = veil.See(veilOf(place(1, 200, 0, 0)), 1, a)
	want(t, "the end is hidden", told(l[0].Laps, len(l[0].Samples)), "[] 2")
	a.Laps = []api.Lap{{From: 0, To: 10, Name: "first"}, {From: 10, To: 20, Name: "second"}}
	l, _ = veil.See(veilOf(place(1, 0, 0, 0)), 1, a)
	want(t, "laps begin with the piece", told(l[0].Laps), "[{0 10 second}]")
}

func TestJ3Names(t *testing.T) {
	a := full()
	l, _ := veil.See(veilOf(name(2)), 2, a)
	want(t, "names", told(l[0].Name, l[0].Tags, l[0].Laps, l[1].Name, l[1].Tags, l[1].Laps), "activity [] [{0 10 } {10 20 }] activity [] [{0 10 }]")
	want(t, "the sport stays", told(l[0].Sport, l[1].Sport), "4 4")
	l, _ = veil.See(veilOf(name(2), name(1), name(1)), 2, a)
	want(t, "names three times", told(l[0].Name, l[0].Tags, l[0].Laps), "activity [] [{0 10 } {10 20 }]")
	l, _ = veil.See(veilOf(name(1), tag(1, "hill")), 1, a)
	want(t, "tags hide, although nobody sees them", told(len(l)), "0")
}

func TestJ3Days(t *testing.T) {
	a := walk([]int{0}, []int{1}, []int{70})
	for _, c := range [][2]int{{0, 0}, {86399, 0}, {86400, 86400}, {86401, 86400}, {3*86400 - 1, 2 * 86400}, {api.MaxMoment - 70, api.MaxDay * 86400}} {
		a.Start = c[0]
		l, e := veil.See(veilOf(day(1)), 1, a)
		want(t, told("from", c[0]), told(l[0].Start, len(l[0].Samples), e), told(c[1], 2, 0))
	}
	a.Start = 86400*5 - 70
	l, _ := veil.See(veilOf(day(1)), 1, a)
	want(t, "the second piece is on the next day", ats(l), "345600: 0 1; 432000: 0; ")
	l, _ = veil.See(veilOf(hours(1, 86330, 86335), day(1)), 1, a)
	want(t, "hours are those of before", ats(l), "432000: 0; ")
}

func TestJ3Fields(t *testing.T) {
	a := walk([]int{0, 1, 2, 3}, []int{5, 4, 5, -6})
	a.Samples[0].Pulse, a.Samples[0].Power, a.Samples[0].Steps = 100, 200, 80
	for n, wanted := range []string{
		api.FieldPulse:  "[{0 1 2 3 -1 200 80} {5 4 5 -6 -1 -1 -1}]",
		api.FieldPower:  "[{0 1 2 3 100 -1 80} {5 4 5 -6 -1 -1 -1}]",
		api.FieldSteps:  "[{0 1 2 3 100 200 -1} {5 4 5 -6 -1 -1 -1}]",
		api.FieldHeight: "[{0 1 2 0 100 200 80} {5 4 5 0 -1 -1 -1}]",
	} {
		if n > 0 {
			l, _ := veil.See(veilOf(field(1, n)), 1, a)
			want(t, told("field", n), told(l[0].Samples), wanted)
		}
	}
	l, _ := veil.See(veilOf(field(1, 1), field(1, 2), field(1, 3), field(1, 4)), 1, a)
	want(t, "all fields", told(l[0].Samples), "[{0 1 2 0 -1 -1 -1} {5 4 5 0 -1 -1 -1}]")
}

func TestJ3Grids(t *testing.T) {
	a := walk([]int{0, 19, 20}, []int{1, -1, -10}, []int{2, -11, 0}, []int{3, api.MaxPlace, -api.MaxPlace})
	for _, c := range []struct {
		wanted string
		grids  []int
	}{
		{"10 20, -10 -10, -20 0, 100000000 -100000000, ", []int{10}},
		{"19 20, -1 -10, -11 0, 100000000 -100000000, ", []int{1}},
		{"14 14, -7 -14, -14 0, 99999998 -100000000, ", []int{7}},
		{"0 0, -1000000 -1000000, -1000000 0, 100000000 -100000000, ", []int{1_000_000}},
		{"0 0, -999999 -999999, -999999 0, 99999900 -100000000, ", []int{999_999}},
		{"10 10, -10 -20, -20 0, 99999990 -100000000, ", []int{7, 10}},
		{"7 14, -14 -14, -21 0, 99999998 -100000000, ", []int{10, 7}},
		{"0 10, -20 -20, -30 0, 99999990 -100000000, ", []int{10, 7, 10}},
	} {
		var v api.Veil
		for _, n := range c.grids {
			v.Rules = append(v.Rules, grid(1, n))
		}
		l, e := veil.See(v, 1, a)
		got := ""
		for _, s := range l[0].Samples {
			got += fmt.Sprint(s.X, " ", s.Y, ", ")
		}
		want(t, fmt.Sprint(c.grids), got+told(e), c.wanted+"0")
		want(t, fmt.Sprint(c.grids), told(record.Check(l[0])), "0")
	}
	l, _ := veil.See(veilOf(grid(1, 100), place(1, 19, 20, 0)), 1, a)
	want(t, "places are those of before", told(len(l[0].Samples), l[0].Start), "3 1001")
}

// TestJ3Words holds Hidden, See and SeeAll to the words of the document.
func TestJ3Words(t *testing.T) {
	r := rand.New(rand.NewSource(101))
	seen := map[int]int{}
	for range 30000 {
		v, level, a, b := randomVeil(r, 6), r.Intn(4), randomActivity(r), randomActivity(r)
		what := told(v, level, a)
		hidden, all, e := veil.Hidden(v, level, a)
		want(t, what, told(hidden, all, e), told(slowHidden(v, level, a), slowAll(v, level, a), 0))
		l, e := veil.See(v, level, a)
		wanted := slowSee(v, level, a)
		if !sameAll(l, wanted) || e != api.OK {
			t.Fatalf("%s: got %v, want %v", what, l, wanted)
		}
		seen[len(l)]++
		l, e = veil.SeeAll(v, level, []api.Activity{a, b, a})
		if !sameAll(l, slices.Concat(wanted, slowSee(v, level, b), wanted)) || e != api.OK {
			t.Fatalf("%s and %v: got %v", what, b, l)
		}
		for _, p := range l {
			want(t, what+", its pieces", told(record.Check(p)), "0")
		}
	}
	for many := range 4 {
		if seen[many] < 100 {
			t.Error("not often: ", many, seen[many])
		}
	}
}

// disguised returns an activity with other samples at the times when they are hidden, none, or more; the first and the last one stay at their times, and all that is seen stays.
func disguised(r *rand.Rand, v api.Veil, level int, a api.Activity) api.Activity {
	b := a
	b.Samples = nil
	hidden, _, _ := veil.Hidden(v, level, a)
	for i, s := range a.Samples {
		isEnd := i == 0 || i == len(a.Samples)-1
		if !hidden[i] || isEnd || r.Intn(3) > 0 {
			b.Samples = append(b.Samples, s)
		}
		if !isEnd && r.Intn(3) == 0 && a.Samples[i+1].At > s.At+1 {
			s.At++
			b.Samples = append(b.Samples, s)
		}
	}
	for i := range b.Samples {
		s := &b.Samples[i]
		if !slices.Contains(a.Samples, *s) || isHiddenAt(a, hidden, s.At) {
			s.X, s.Y, s.Z = r.Intn(40)-20, r.Intn(40)-20, r.Intn(9)-4
			s.Pulse, s.Power, s.Steps = r.Intn(9)-1, r.Intn(9)-1, r.Intn(9)-1
		}
	}
	return b
}

func isHiddenAt(a api.Activity, hidden []bool, at int) bool {
	i := slices.IndexFunc(a.Samples, func(s api.Sample) bool { return s.At == at })
	return i >= 0 && hidden[i]
}

// visible returns the samples that a level sees.
func visible(v api.Veil, level int, a api.Activity) (l []api.Sample) {
	hidden, _, _ := veil.Hidden(v, level, a)
	for i, s := range a.Samples {
		if !hidden[i] {
			l = append(l, s)
		}
	}
	return l
}

// TestJ3Same asks whether all answers are the same for activities that differ only in what is hidden.
func TestJ3Same(t *testing.T) {
	r := rand.New(rand.NewSource(102))
	different := 0
	for range 60000 {
		v, level, a := randomVeil(r, 6), 1+r.Intn(3), randomActivity(r)
		b := disguised(r, v, level, a)
		if record.Same(a, b) || !slices.Equal(visible(v, level, a), visible(v, level, b)) {
			continue
		}
		different++
		want(t, "the disguise "+told(b), told(record.Check(b)), "0")
		ofA, ofB := answersTo(v, level, a), answersTo(v, level, b)
		for name := range ofA {
			want(t, name+told(v, level, a, b), ofB[name], ofA[name])
		}
		tells, e := veil.Tells(v, level, a, b)
		want(t, "Tells"+told(v, level, a, b), told(tells, e), "false 0")
	}
	if different < 4000 {
		t.Error("not often: ", different)
	}
}

// answersTo has what a level is told of an activity, by the names of the functions.
func answersTo(v api.Veil, level int, a api.Activity) map[string]string {
	l := []api.Activity{a, a}
	return map[string]string{
		"See":    told(veil.See(v, level, a)),
		"SeeAll": told(veil.SeeAll(v, level, l)),
		"Totals": told(veil.Totals(v, level, l)),
		"Curve":  told(veil.Curve(v, level, l, api.StreamWay, []int{1, 3, 60})),
		"Export": told(veil.Export(v, level, l, false)),
	}
}

// TestJ3Levels asks whether a greater level sees no sample that a lesser one does not see.
func TestJ3Levels(t *testing.T) {
	r := rand.New(rand.NewSource(103))
	for range 10000 {
		v, a := randomVeil(r, 8), randomActivity(r)
		all, isAll, _ := veil.Hidden(v, 0, a)
		if slices.Contains(all, true) || isAll {
			t.Errorf("the level 0 does not see all: %v, %v", v, a)
		}
		for level := 1; level <= veil.MaxLevel; level++ {
			less, isLess, _ := veil.Hidden(v, level, a)
			for i := range all {
				if all[i] && !less[i] || isAll && !isLess {
					t.Errorf("the level %d sees more: %v, %v", level, v, a)
				}
			}
			all, isAll = less, isLess
		}
	}
}
