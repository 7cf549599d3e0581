package quant_test

import (
	"math"
	"slices"
	"strings"
	"testing"
	"time"

	"harrier/api"
	"harrier/quant"
)

func zone(first int, l ...int) api.Zone {
	z := api.Zone{First: first}
	for i := 0; i < len(l); i += 2 {
		z.Changes = append(z.Changes, api.Change{From: l[i], Offset: l[i+1]})
	}
	return z
}

// manyChanges is a zone with n changes.
func manyChanges(n int) api.Zone {
	z := api.Zone{}
	for i := range n {
		z.Changes = append(z.Changes, api.Change{From: 1000 * i, Offset: i % 3})
	}
	return z
}

func TestA7CheckZone(t *testing.T) {
	for _, c := range []struct {
		name string
		z    api.Zone
		want api.Errno
	}{
		{"none", zone(0), api.OK}, {"the least", zone(-720, 0, -720), api.OK}, {"the greatest", zone(840, api.MaxMoment, 840), api.OK},
		{"200", manyChanges(200), api.OK}, {"201", manyChanges(201), api.ErrSize}, {"the same again", zone(60, 5, 60, 6, 60), api.OK},
		{"First below", zone(-721), api.ErrRange}, {"First above", zone(841), api.ErrRange}, {"First", zone(math.MinInt), api.ErrRange},
		{"From below", zone(0, -1, 0), api.ErrRange}, {"From above", zone(0, api.MaxMoment+1, 0), api.ErrRange},
		{"Offset below", zone(0, 0, -721), api.ErrRange}, {"Offset above", zone(0, 0, 841), api.ErrRange},
		{"equal", zone(0, 7, 1, 7, 2), api.ErrOrder}, {"back", zone(0, 7, 1, 6, 2), api.ErrOrder},
		{"the range of one before its order", zone(0, 7, 1, 6, 841), api.ErrRange}, {"the order of one before the range of the next", zone(0, 7, 1, 6, 2, 9, 841), api.ErrOrder},
	} {
		if e := quant.CheckZone(c.z); e != c.want {
			t.Errorf("CheckZone of %s: got %d, want %d", c.name, e, c.want)
		}
	}
	z := manyChanges(201)
	z.First = 841
	want(t, "the size first", told(quant.CheckZone(z)), "3")
}

// TestA7ZoneFirst asks for the error of the zone, with all else wrong too.
func TestA7ZoneFirst(t *testing.T) {
	z := zone(0, 7, 1, 6, 2)
	n, e := quant.Offset(z, -1)
	want(t, "Offset", told(n, e), "0 10")
	day, second, e := quant.Local(z, -1)
	want(t, "Local", told(day, second, e), "0 0 10")
	l, e := quant.Moments(z, -1, -1)
	want(t, "Moments", told(l, e), "[] 10")
	s, e := quant.StampText(z, -1)
	want(t, "StampText", told(s, e), " 10")
	n, at, e := quant.ReadStamp(z, strings.Repeat("x", 2000), false)
	want(t, "ReadStamp", told(n, at, e), "0 0 10")
}

func TestA7Offset(t *testing.T) {
	z := zone(120, 3600, 60, 7200, -30)
	for moment, s := range map[int]string{0: "120 0", 3599: "120 0", 3600: "60 0", 7199: "60 0", 7200: "-30 0", api.MaxMoment: "-30 0", -1: "0 9", api.MaxMoment + 1: "0 9", math.MaxInt: "0 9"} {
		n, e := quant.Offset(z, moment)
		want(t, told("Offset", moment), told(n, e), s)
	}
	n, e := quant.Offset(zone(5, 0, 6), 0)
	want(t, "Offset from the moment 0 on", told(n, e), "6 0")
}

func TestA7Local(t *testing.T) {
	for _, c := range []struct {
		first, moment int
		want          string
	}{
		{0, 0, "0 0 0"}, {0, 86_399, "0 86399 0"}, {0, 86_400, "1 0 0"}, {1, 86_399, "1 59 0"}, {-1, 86_400, "0 86340 0"}, {840, 0, "0 50400 0"},
		{-1, 59, "0 0 9"}, {-1, 60, "0 0 0"}, {1, api.MaxMoment - 60, "999999 86399 0"}, {1, api.MaxMoment - 59, "0 0 9"}, {0, api.MaxMoment, "999999 86399 0"},
		{0, -1, "0 0 9"}, {1, -1, "0 0 9"}, {-1, api.MaxMoment + 1, "0 0 9"}, {0, math.MinInt, "0 0 9"},
	} {
		day, second, e := quant.Local(zone(c.first), c.moment)
		want(t, told("Local", c.first, c.moment), told(day, second, e), c.want)
	}
}

func TestA7Moments(t *testing.T) {
	const most = 3 * api.DayLong
	for _, z := range []api.Zone{zone(0), zone(-720), zone(840), zone(120, 3600, 60), zone(60, 3600, 120), zone(0, 0, 60), zone(5, 1, 4, 2, 3, 3, 2, 60, 0, 61, 1), zone(60, 7200, 60, 7260, 59, 7320, 60, 7321, 0, 90_000, 840, 90_001, -720)} {
		shown := map[[2]int][]int{}
		for moment := range most {
			if day, second, e := quant.Local(z, moment); e == api.OK {
				shown[[2]int{day, second}] = append(shown[[2]int{day, second}], moment)
			}
		}
		for day := range 2 {
			for second := range api.DayLong {
				l, e := quant.Moments(z, day, second)
				if e != api.OK || !slices.Equal(l, shown[[2]int{day, second}]) {
					t.Fatalf("Moments %v %d %d: got %v %d, want %v", z, day, second, l, e, shown[[2]int{day, second}])
				}
			}
		}
	}
}

func TestA7MomentsEdges(t *testing.T) {
	for _, c := range []struct {
		z           api.Zone
		day, second int
		want        string
	}{
		{zone(120, 3600, 60), 0, 7200, "[0 3600] 0"}, {zone(3, 60, 2, 120, 1), 0, 180, "[0 60 120] 0"}, {zone(0), api.MaxDay, 86_399, "[86399999999] 0"}, {zone(-1), api.MaxDay, 86_339, "[86399999999] 0"}, {zone(-1), api.MaxDay, 86_340, "[] 0"},
		{zone(0, api.MaxMoment, 1), api.MaxDay, 86_399, "[] 0"}, {zone(1), 0, 59, "[] 0"},
		{zone(0), -1, 0, "[] 9"}, {zone(0), api.MaxDay + 1, 0, "[] 9"}, {zone(0), 0, -1, "[] 9"}, {zone(0), 0, 86_400, "[] 9"}, {zone(0), math.MaxInt, math.MinInt, "[] 9"},
	} {
		l, e := quant.Moments(c.z, c.day, c.second)
		want(t, told("Moments", c.z, c.day, c.second), told(l, e), c.want)
	}
}

func TestA7Stamps(t *testing.T) {
	z := zone(120, 3600, 60, 10_800, 180)
	for moment, s := range map[int]string{0: "2000-01-03 02:00:00 0", 3600: "2000-01-03 02:00:00 0", 90_061: "2000-01-04 04:01:01 0", api.MaxMoment: " 9", -1: " 9"} {
		got, e := quant.StampText(z, moment)
		want(t, told("StampText", moment), told(got, e), s)
	}
	for _, c := range [][3]string{
		{"2000-01-03 02:00:00", "0 0 0", "3600 0 0"}, {"2000-01-03 02:59:59", "3599 0 0", "7199 0 0"}, {"2000-01-03 03:00:00", "7200 0 0", "7200 0 0"}, {"2000-01-03 04:30:00", "0 0 4", "0 0 4"}, {"2000-01-03 00:00:00", "0 0 4", "0 0 4"},
		{"4737-11-29 23:59:59", "86399989199 0 0", "86399989199 0 0"}, {"2000-01-02 23:59:59", "0 0 9", "0 0 9"}, {"2001-02-29 00:00:00", "0 0 9", "0 0 9"},
		{"2000-01-03 24:00:00", "0 12 6", "0 12 6"}, {"2000-01-03 23:60:00", "0 14 6", "0 14 6"}, {"2000-01-03 23:59:60", "0 17 6", "0 17 6"}, {"2000-01-03", "0 10 6", "0 10 6"}, {"2000-01-03T00:00:00", "0 10 6", "0 10 6"}, {"2000-01-03 00:00", "0 16 6", "0 16 6"}, {"2000-01-03 00:00:00 ", "0 19 6", "0 19 6"},
	} {
		n, at, e := quant.ReadStamp(z, c[0], false)
		want(t, c[0], told(n, at, e), c[1])
		n, at, e = quant.ReadStamp(z, c[0], true)
		want(t, c[0]+", the last", told(n, at, e), c[2])
	}
}

// TestA7StampsOfMoments writes moments, and reads them again.
func TestA7StampsOfMoments(t *testing.T) {
	for moment := 0; moment <= api.MaxMoment; moment += 7_654_321 {
		x := dateOf(0).Add(time.Duration(moment%api.DayLong)*time.Second).AddDate(0, 0, moment/api.DayLong)
		s, e := quant.StampText(zone(0), moment)
		want(t, told("StampText", moment), told(s, e), x.Format(time.DateTime)+" 0")
		n, at, e := quant.ReadStamp(zone(0), s, false)
		want(t, s, told(n, at, e), told(moment, 0, 0))
	}
	for _, second := range []int{0, 59, 60, 3599, 3600, 36_000, 82_799, 86_399} {
		s, e := quant.StampText(zone(0), second)
		want(t, told("StampText", second), told(s, e), dateOf(0).Add(time.Duration(second)*time.Second).Format(time.DateTime)+" 0")
	}
}
