package trail_test

import (
	"fmt"
	"math"
	"math/rand"
	"slices"
	"testing"

	"harrier/api"
	"harrier/record"
	"harrier/trail"
)

func TestK7Merge(t *testing.T) {
	a := full()
	b := walk(1003, []int{0, 7, 7, 7}, []int{2, 8, 8, 8}, []int{9, 9, 9, 9})
	b.Name, b.Laps, b.Tags = "other", []api.Lap{{From: 0, To: 5, Name: "not"}}, []string{"a", "d", "e"}
	for i := range b.Samples {
		b.Samples[i].Pulse, b.Samples[i].Power, b.Samples[i].Steps = 60+i, 70+i, 80+i
	}
	for _, c := range []struct {
		shift int
		want  string
	}{
		{0, "{walk 4 1000 [{0 0 0 0 100 -1 80} {3 4 4 9 60 200 80} {5 8 8 8 61 71 81} {6 5 5 5 110 -1 -1} {9 5 5 6 -1 210 -1} {12 9 9 9 62 72 82}] [{0 4 one} {5 9 two}] [a b d e]} 0"},
		{3, "{walk 4 1000 [{0 0 0 0 100 70 80} {2 8 8 8 61 71 81} {3 4 4 9 -1 200 -1} {6 5 5 5 110 -1 -1} {9 5 5 6 62 210 82}] [{0 4 one} {5 9 two}] [a b d e]} 0"},
		{-3, "{walk 4 1000 [{0 0 0 0 100 -1 80} {3 4 4 9 -1 200 -1} {6 5 5 5 110 70 80} {8 8 8 8 61 71 81} {9 5 5 6 -1 210 -1} {15 9 9 9 62 72 82}] [{0 4 one} {5 9 two}] [a b d e]} 0"},
		{4, "{walk 4 999 [{0 7 7 7 60 70 80} {1 0 0 0 100 -1 80} {2 8 8 8 61 71 81} {4 4 4 9 -1 200 -1} {7 5 5 5 110 -1 -1} {9 9 9 9 62 72 82} {10 5 5 6 -1 210 -1}] [{1 5 one} {6 10 two}] [a b d e]} 0"},
		{103, "{walk 4 900 [{0 7 7 7 60 70 80} {2 8 8 8 61 71 81} {9 9 9 9 62 72 82} {100 0 0 0 100 -1 80} {103 4 4 9 -1 200 -1} {106 5 5 5 110 -1 -1} {109 5 5 6 -1 210 -1}] [{100 104 one} {105 109 two}] [a b d e]} 0"},
		{-87, "{walk 4 1000 [{0 0 0 0 100 -1 80} {3 4 4 9 -1 200 -1} {6 5 5 5 110 -1 -1} {9 5 5 6 -1 210 -1} {90 7 7 7 60 70 80} {92 8 8 8 61 71 81} {99 9 9 9 62 72 82}] [{0 4 one} {5 9 two}] [a b d e]} 0"},
	} {
		want(t, fmt.Sprint("Merge ", c.shift), told(trail.Merge(a, b, c.shift)), c.want)
	}
}

func TestK7Empty(t *testing.T) {
	a, b := walk(500), walk(700)
	a.Tags, b.Tags = []string{"x"}, []string{"x"}
	want(t, "no samples", told(trail.Merge(a, b, 3)), "{walk 4 500 [] [] [x]} 0")
	want(t, "no samples, whatever the shift", told(trail.Merge(a, b, api.MaxMoment)), "{walk 4 500 [] [] [x]} 0")
	b.Samples = walk(0, []int{0, 1, 2, 3}, []int{8, 4, 5, 6}).Samples
	want(t, "none in the first one", told(trail.Merge(a, b, 3)), "{walk 4 697 [{0 1 2 3 -1 -1 -1} {8 4 5 6 -1 -1 -1}] [] [x]} 0")
	want(t, "none in the first one, which is later", told(trail.Merge(a, b, 300)), "{walk 4 400 [{0 1 2 3 -1 -1 -1} {8 4 5 6 -1 -1 -1}] [] [x]} 0")
	b.Laps = []api.Lap{{From: 0, To: 8}}
	want(t, "none in the second one", told(trail.Merge(b, a, 3)), told(b, 0))
	want(t, "none in the second one, whatever the shift", told(trail.Merge(b, a, -api.MaxMoment)), told(b, 0))
}

// TestK7Moments has results at the ends of what can be.
func TestK7Moments(t *testing.T) {
	a := walk(10, []int{0}, []int{5})
	for _, c := range []struct {
		what  string
		a, b  api.Activity
		shift int
		want  string
	}{
		{"the first moment", a, walk(30, []int{0}), 30, "0 [0 10 15] 0"},
		{"ahead of the first moment", a, walk(30, []int{0}), 31, "0 [] 9"},
		{"as long as can be", a, walk(30, []int{0}), -999980, "10 [0 5 1000000] 0"},
		{"longer", a, walk(30, []int{0}), -999981, "0 [] 9"},
		{"as long as can be, ahead", walk(2000000, []int{0}, []int{5}), walk(2000000, []int{0}), 999995, "1000005 [0 999995 1000000] 0"},
		{"longer, ahead", walk(2000000, []int{0}, []int{5}), walk(2000000, []int{0}), 999996, "0 [] 9"},
		{"the last moment", walk(api.MaxMoment-5, []int{0}), walk(7, []int{0}), 7 - api.MaxMoment, "86399999994 [0 5] 0"},
		{"behind the last moment", walk(api.MaxMoment-5, []int{0}), walk(7, []int{0}), 6 - api.MaxMoment, "0 [] 9"},
		{"the greatest shift", walk(0, []int{0}), walk(api.MaxMoment, []int{0}), api.MaxMoment, "0 [0] 0"},
		{"the least shift", walk(api.MaxMoment, []int{0}), walk(0, []int{0}), -api.MaxMoment, "86399999999 [0] 0"},
		{"a greater shift", walk(0), walk(0), api.MaxMoment + 1, "0 [] 9"},
		{"a lesser shift", walk(0), walk(0), -api.MaxMoment - 1, "0 [] 9"},
		{"the greatest number", a, a, math.MaxInt, "0 [] 9"},
		{"the least number", a, a, math.MinInt, "0 [] 9"},
	} {
		m, e := trail.Merge(c.a, c.b, c.shift)
		ats := []int{}
		for _, s := range m.Samples {
			ats = append(ats, s.At)
		}
		want(t, c.what, told(m.Start, ats, e), c.want)
	}
}

func TestK7Errors(t *testing.T) {
	wrong, other, ride := full(), full(), full()
	wrong.Name, other.Sport, ride.Sport = "", 0, api.Ride
	tags := func(from int) []string {
		return many(12, func(i int) string { return fmt.Sprintf("t%02d", from+i) })
	}
	half, later := long(10001), long(10000)
	half.Tags, later.Tags = tags(0), tags(8)
	later.Start += 10000
	for _, c := range []struct {
		what  string
		a, b  api.Activity
		shift int
		e     api.Errno
	}{
		{"both wrong", wrong, other, math.MaxInt, api.ErrName},
		{"both wrong, the other way round", other, wrong, math.MaxInt, api.ErrKind},
		{"the second one wrong, another sport", ride, wrong, 0, api.ErrName},
		{"other sports", full(), ride, math.MaxInt, api.ErrKind},
		{"other sports, the other way round", ride, full(), 0, api.ErrKind},
		{"a shift, and too many samples", half, later, -api.MaxMoment - 1, api.ErrRange},
		{"one second in common", half, later, 0, api.OK},
		{"no second in common", half, later, -1, api.ErrSize},
		{"too many samples, too early", half, later, 100000, api.ErrSize},
		{"too many samples, too long", half, later, -2000000, api.ErrSize},
		{"all seconds in common", half, half, 0, api.OK},
	} {
		m, e := trail.Merge(c.a, c.b, c.shift)
		want(t, c.what, told(e), told(c.e))
		if e != api.OK {
			want(t, c.what, told(m), none)
		}
	}
	a, b := walk(10, []int{0}), walk(10, []int{0})
	a.Tags, b.Tags = tags(0), tags(8)
	want(t, "as many tags as can be", told(trail.Merge(a, b, 0)), "{walk 4 10 [{0 0 0 0 -1 -1 -1}] [] [t00 t01 t02 t03 t04 t05 t06 t07 t08 t09 t10 t11 t12 t13 t14 t15 t16 t17 t18 t19]} 0")
	b.Tags = tags(9)
	want(t, "a tag more", told(trail.Merge(a, b, 0)), none+" 3")
	want(t, "a tag more, too early", told(trail.Merge(a, b, 11)), none+" 3")
}

// slowMerge has samples and laps by their moments.
func slowMerge(a, b api.Activity, shift int) (api.Activity, api.Errno) {
	at := map[int]api.Sample{}
	for _, s := range b.Samples {
		at[b.Start+s.At-shift] = s
	}
	for _, s := range a.Samples {
		more, ok := at[a.Start+s.At]
		if ok && s.Pulse == -1 {
			s.Pulse = more.Pulse
		}
		if ok && s.Power == -1 {
			s.Power = more.Power
		}
		if ok && s.Steps == -1 {
			s.Steps = more.Steps
		}
		at[a.Start+s.At] = s
	}
	m := api.Activity{Name: a.Name, Sport: a.Sport, Start: a.Start}
	var moments []int
	for moment := range at {
		moments = append(moments, moment)
	}
	slices.Sort(moments)
	for i, moment := range moments {
		if i == 0 {
			m.Start = moment
		}
		s := at[moment]
		s.At = moment - m.Start
		m.Samples = append(m.Samples, s)
	}
	for _, x := range a.Laps {
		m.Laps = append(m.Laps, api.Lap{From: a.Start + x.From - m.Start, To: a.Start + x.To - m.Start, Name: x.Name})
	}
	for _, s := range []string{"a", "b", "c"} {
		if slices.Contains(a.Tags, s) || slices.Contains(b.Tags, s) {
			m.Tags = append(m.Tags, s)
		}
	}
	if e := record.Check(m); e != api.OK {
		return api.Activity{}, e
	}
	return m, api.OK
}

func TestK7Random(t *testing.T) {
	r := rand.New(rand.NewSource(117))
	seen := map[api.Errno]int{}
	for range 20000 {
		a, b := randomActivity(r), randomActivity(r)
		b.Sport, b.Start = a.Sport, max(a.Start+r.Intn(80)-40, 0)
		for _, l := range [][]api.Sample{a.Samples, b.Samples} {
			for i := range l {
				l[i].Z = r.Intn(9)
			}
		}
		shift := one(r, 0, r.Intn(100)-50)
		m, e := trail.Merge(a, b, shift)
		seen[e]++
		want(t, fmt.Sprint("Merge of ", a, " and ", b, " with ", shift), told(m, e), told(slowMerge(a, b, shift)))
	}
	wantOften(t, seen, api.OK, api.ErrRange)
}

// TestK7Divided divides the samples of an activity among two recordings, puts the clock of one of them forward, and merges them.
func TestK7Divided(t *testing.T) {
	r := rand.New(rand.NewSource(1170))
	for range 3000 {
		whole := randomActivity(r)
		whole.Laps = nil
		if len(whole.Samples) == 0 {
			continue
		}
		a, b := whole, whole
		a.Samples, b.Samples = nil, nil
		for i, s := range whole.Samples {
			where := r.Intn(3)
			if i == 0 || where != 1 {
				a.Samples = append(a.Samples, s)
			}
			if where != 0 {
				b.Samples = append(b.Samples, s)
			}
		}
		ahead := min(r.Intn(50), api.MaxMoment-whole.Start-record.Span(whole))
		b.Start += ahead
		if len(b.Samples) > 0 {
			first := b.Samples[0].At
			b.Start += first
			for i := range b.Samples {
				b.Samples[i].At -= first
			}
		}
		m, e := trail.Merge(a, b, ahead)
		want(t, fmt.Sprint("Merge of ", a, " and ", b), told(m, e), told(whole, 0))
	}
}
