package record_test

import (
	"math"
	"slices"
	"strings"
	"testing"

	"harrier/api"
	"harrier/record"
)

// ride has all that an activity can have.
func ride() api.Activity {
	return api.Activity{
		Name: "Ride_1.x", Sport: api.Ride, Start: 1000,
		Samples: []api.Sample{{At: 0, X: 10, Y: -20, Z: 30, Pulse: 100, Power: -1, Steps: 80}, {At: 31, X: 11, Y: -21, Z: 31, Pulse: -1, Power: 200, Steps: -1}, {At: 63, X: 12, Y: -22, Z: -32, Pulse: 120, Power: 0, Steps: 0}},
		Laps:    []api.Lap{{From: 0, To: 10, Name: "up ~"}, {From: 10, To: 63}},
		Tags:    []string{"a", "a.", "b"},
	}
}

func manySamples(n int) []api.Sample {
	l := make([]api.Sample, n)
	for i := range l {
		l[i].At = i
	}
	return l
}

func manyLaps(n int) []api.Lap {
	l := make([]api.Lap, n)
	for i := range l {
		l[i] = api.Lap{From: i, To: i + 1}
	}
	return l
}

func manyTags(n int) []string {
	var l []string
	for i := range n {
		l = append(l, string(rune('a'+i)))
	}
	return l
}

// checkCase changes a ride; the ride is then right, or wrong in this way.
type checkCase struct {
	what   string
	change func(a *api.Activity)
	want   api.Errno
}

func runChecks(t *testing.T, l []checkCase) {
	t.Helper()
	for _, c := range l {
		a := ride()
		c.change(&a)
		want(t, c.what, told(record.Check(a)), told(c.want))
	}
}

func TestB1CheckHead(t *testing.T) {
	runChecks(t, []checkCase{
		{"as it is", func(a *api.Activity) {}, api.OK},
		{"nothing in it", func(a *api.Activity) { a.Samples, a.Laps, a.Tags = nil, nil, nil }, api.OK},
		{"no name", func(a *api.Activity) { a.Name = "" }, api.ErrName},
		{"60 bytes", func(a *api.Activity) { a.Name = strings.Repeat("-", 60) }, api.OK},
		{"61 bytes", func(a *api.Activity) { a.Name = strings.Repeat("-", 61) }, api.ErrName},
		{"a blank in a name", func(a *api.Activity) { a.Name = "a b" }, api.ErrName},
		{"the last sport", func(a *api.Activity) { a.Sport = api.Ski }, api.OK},
		{"the first sport", func(a *api.Activity) { a.Sport = api.Run }, api.OK},
		{"sport 0", func(a *api.Activity) { a.Sport = 0 }, api.ErrKind},
		{"sport 6", func(a *api.Activity) { a.Sport = 6 }, api.ErrKind},
		{"start 0", func(a *api.Activity) { a.Start = 0 }, api.OK},
		{"start -1", func(a *api.Activity) { a.Start = -1 }, api.ErrRange},
		{"the last start", func(a *api.Activity) { a.Start, a.Samples, a.Laps = api.MaxMoment, a.Samples[:1], nil }, api.OK},
		{"a start behind it", func(a *api.Activity) { a.Start, a.Samples, a.Laps = api.MaxMoment+1, nil, nil }, api.ErrRange},
		{"the most samples", func(a *api.Activity) { a.Samples = manySamples(api.MaxSamples) }, api.OK},
		{"too many samples", func(a *api.Activity) { a.Samples = manySamples(api.MaxSamples + 1) }, api.ErrSize},
		{"the most laps", func(a *api.Activity) { a.Samples, a.Laps = manySamples(201), manyLaps(200) }, api.OK},
		{"too many laps", func(a *api.Activity) { a.Samples, a.Laps = manySamples(202), manyLaps(201) }, api.ErrSize},
		{"the most tags", func(a *api.Activity) { a.Tags = manyTags(20) }, api.OK},
		{"too many tags", func(a *api.Activity) { a.Tags = manyTags(21) }, api.ErrSize},
		{"name and sport", func(a *api.Activity) { a.Name, a.Sport = "", 0 }, api.ErrName},
		{"sport and start", func(a *api.Activity) { a.Sport, a.Start = 0, -1 }, api.ErrKind},
		{"start and tags", func(a *api.Activity) { a.Start, a.Tags = -1, manyTags(21) }, api.ErrRange},
		{"tags and samples", func(a *api.Activity) { a.Samples[0].At, a.Tags = 1, manyTags(21) }, api.ErrSize},
	})
}

func TestB1CheckSamples(t *testing.T) {
	runChecks(t, []checkCase{
		{"first At 1", func(a *api.Activity) { a.Samples[0].At = 1 }, api.ErrOrder},
		{"first At -1", func(a *api.Activity) { a.Samples[0].At = -1 }, api.ErrOrder},
		{"equal At", func(a *api.Activity) { a.Samples[1].At = 0 }, api.ErrOrder},
		{"lesser At", func(a *api.Activity) { a.Samples[2].At = 30 }, api.ErrOrder},
		{"the greatest At", func(a *api.Activity) { a.Samples[2].At = api.MaxSpan }, api.OK},
		{"At above", func(a *api.Activity) { a.Samples[2].At = api.MaxSpan + 1 }, api.ErrRange},
		{"At far above", func(a *api.Activity) { a.Samples[2].At = math.MaxInt }, api.ErrRange},
		{"the last moment", func(a *api.Activity) { a.Start = api.MaxMoment - 63 }, api.OK},
		{"a moment behind it", func(a *api.Activity) { a.Start = api.MaxMoment - 62 }, api.ErrRange},
		{"order and range", func(a *api.Activity) { a.Samples[1].At, a.Samples[1].X = 0, math.MaxInt }, api.ErrOrder},
		{"range ahead of order", func(a *api.Activity) { a.Samples[1].X, a.Samples[2].At = math.MinInt, 0 }, api.ErrRange},
		{"samples ahead of laps", func(a *api.Activity) { a.Samples[2].X, a.Laps[1].From = math.MinInt, 0 }, api.ErrRange},
	})
	for _, c := range []struct {
		what      string
		field     func(x *api.Sample) *int
		low, high int
	}{
		{"X", func(x *api.Sample) *int { return &x.X }, -api.MaxPlace, api.MaxPlace},
		{"Y", func(x *api.Sample) *int { return &x.Y }, -api.MaxPlace, api.MaxPlace},
		{"Z", func(x *api.Sample) *int { return &x.Z }, -api.MaxHeight, api.MaxHeight},
		{"Pulse", func(x *api.Sample) *int { return &x.Pulse }, -1, api.MaxPulse},
		{"Power", func(x *api.Sample) *int { return &x.Power }, -1, api.MaxPower},
		{"Steps", func(x *api.Sample) *int { return &x.Steps }, -1, api.MaxSteps},
	} {
		for n, e := range map[int]api.Errno{c.low: api.OK, c.high: api.OK, 0: api.OK, c.low - 1: api.ErrRange, c.high + 1: api.ErrRange, math.MinInt: api.ErrRange, math.MaxInt: api.ErrRange} {
			for k := range 3 {
				runChecks(t, []checkCase{{told(c.what, n), func(a *api.Activity) { *c.field(&a.Samples[k]) = n }, e}})
			}
		}
	}
}

func TestB1CheckLaps(t *testing.T) {
	lap := func(k, from, to int, name string) func(a *api.Activity) {
		return func(a *api.Activity) { a.Laps[k] = api.Lap{From: from, To: to, Name: name} }
	}
	runChecks(t, []checkCase{
		{"From -1", lap(0, -1, 5, ""), api.ErrRange},
		{"no second", lap(0, 5, 5, ""), api.ErrRange},
		{"backwards", lap(0, 6, 5, ""), api.ErrRange},
		{"one second", lap(0, 9, 10, ""), api.OK},
		{"behind the end", lap(1, 10, 64, ""), api.ErrRange},
		{"overlap", lap(1, 9, 63, ""), api.ErrOrder},
		{"a gap", lap(1, 11, 63, ""), api.OK},
		{"range ahead of order", lap(1, 9, 64, ""), api.ErrRange},
		{"order ahead of name", lap(1, 9, 63, "\n"), api.ErrOrder},
		{"60 bytes", lap(0, 0, 10, strings.Repeat(" ", 60)), api.OK},
		{"61 bytes", lap(0, 0, 10, strings.Repeat(" ", 61)), api.ErrName},
		{"a name ahead of the next lap", func(a *api.Activity) { a.Laps[0].Name, a.Laps[1].To = "\n", 64 }, api.ErrName},
		{"laps ahead of tags", func(a *api.Activity) { a.Laps[1].To, a.Tags = 64, []string{""} }, api.ErrRange},
		{"one sample", func(a *api.Activity) { a.Samples, a.Laps = a.Samples[:1], manyLaps(1) }, api.ErrRange},
		{"no samples", func(a *api.Activity) { a.Samples, a.Laps = nil, manyLaps(1) }, api.ErrRange},
	})
	for c := range 256 {
		e := api.OK
		if c < 32 || c > 126 {
			e = api.ErrName
		}
		for _, name := range []string{string([]byte{byte(c)}), "a" + string([]byte{byte(c)}), string([]byte{byte(c)}) + "a"} {
			runChecks(t, []checkCase{{told("byte", c), lap(1, 10, 63, name), e}})
		}
	}
}

func TestB1CheckTags(t *testing.T) {
	tags := func(l ...string) func(a *api.Activity) { return func(a *api.Activity) { a.Tags = l } }
	runChecks(t, []checkCase{
		{"empty", tags(""), api.ErrName},
		{"a blank", tags("a b"), api.ErrName},
		{"60 bytes", tags(strings.Repeat("x", 60)), api.OK},
		{"61 bytes", tags(strings.Repeat("x", 61)), api.ErrName},
		{"twice", tags("a", "a"), api.ErrOrder},
		{"back", tags("b", "a"), api.ErrOrder},
		{"by bytes", tags("Z", "a"), api.OK},
		{"longer behind", tags("a", "aa"), api.OK},
		{"order ahead of name", tags("b", "a", ""), api.ErrOrder},
		{"name ahead of order", tags("b", ""), api.ErrName},
	})
}

func TestB1CheckTagsAlone(t *testing.T) {
	many := make([]string, 21)
	for i := range many {
		many[i] = string(rune('a' + i))
	}
	for _, c := range []struct {
		l    []string
		want string
	}{
		{nil, "0"}, {[]string{"a"}, "0"}, {[]string{"Z", "a", "b"}, "0"}, {many, "0"}, {[]string{""}, "8"}, {[]string{"b", "a", ""}, "10"}, {[]string{"", "b", "a"}, "8"}, {[]string{"a", "a"}, "10"}, {[]string{"a", "b c"}, "8"},
	} {
		want(t, told("CheckTags", c.l), told(record.CheckTags(c.l)), c.want)
	}
}

func TestB1Same(t *testing.T) {
	changes := map[string]func(a *api.Activity){
		"Name":        func(a *api.Activity) { a.Name = "Ride_1.y" },
		"Sport":       func(a *api.Activity) { a.Sport++ },
		"Start":       func(a *api.Activity) { a.Start++ },
		"At":          func(a *api.Activity) { a.Samples[1].At++ },
		"X":           func(a *api.Activity) { a.Samples[1].X++ },
		"Y":           func(a *api.Activity) { a.Samples[0].Y++ },
		"Z":           func(a *api.Activity) { a.Samples[2].Z++ },
		"Pulse":       func(a *api.Activity) { a.Samples[1].Pulse++ },
		"Power":       func(a *api.Activity) { a.Samples[1].Power++ },
		"Steps":       func(a *api.Activity) { a.Samples[1].Steps++ },
		"From":        func(a *api.Activity) { a.Laps[1].From++ },
		"To":          func(a *api.Activity) { a.Laps[0].To++ },
		"a lap's":     func(a *api.Activity) { a.Laps[1].Name = "x" },
		"a tag":       func(a *api.Activity) { a.Tags[2] = "c" },
		"a sample":    func(a *api.Activity) { a.Samples = a.Samples[:2] },
		"a lap":       func(a *api.Activity) { a.Laps = a.Laps[:1] },
		"fewer tags":  func(a *api.Activity) { a.Tags = a.Tags[:2] },
		"no samples":  func(a *api.Activity) { a.Samples = nil },
		"wrong laps":  func(a *api.Activity) { slices.Reverse(a.Laps) },
		"wrong order": func(a *api.Activity) { slices.Reverse(a.Tags) },
	}
	for what, change := range changes {
		a, b := ride(), ride()
		change(&b)
		c := ride()
		change(&c)
		want(t, what, told(record.Same(a, b), record.Same(b, a), record.Same(b, c)), "false false true")
	}
	want(t, "nil and empty", told(record.Same(api.Activity{}, api.Activity{Samples: []api.Sample{}, Laps: []api.Lap{}, Tags: []string{}})), "true")
	want(t, "the same", told(record.Same(ride(), ride())), "true")
}

// TestB1Clone writes over all that the clone has, also behind the ends of its lists.
func TestB1Clone(t *testing.T) {
	a := ride()
	a.Samples, a.Laps, a.Tags = append(make([]api.Sample, 0, 9), a.Samples...), append(make([]api.Lap, 0, 9), a.Laps...), append(make([]string, 0, 9), a.Tags...)
	b := record.Clone(a)
	want(t, "Clone", told(b), told(ride()))
	clear(b.Samples[:cap(b.Samples)])
	clear(b.Laps[:cap(b.Laps)])
	clear(b.Tags[:cap(b.Tags)])
	want(t, "what was cloned", told(a), told(ride()))
	want(t, "Clone of nothing", told(record.Clone(api.Activity{})), told(api.Activity{}))
}

func TestB1JoinTags(t *testing.T) {
	for _, c := range []struct {
		a, b []string
		want string
	}{
		{nil, nil, "[]"}, {[]string{"a"}, nil, "[a]"}, {nil, []string{"a", "b"}, "[a b]"}, {[]string{"b"}, []string{"a", "b", "c"}, "[a b c]"},
		{[]string{"a", "c"}, []string{"a", "c"}, "[a c]"}, {[]string{"Z", "b"}, []string{"a", "bb"}, "[Z a b bb]"},
	} {
		a, b := append(make([]string, 0, 9), c.a...), append(make([]string, 0, 9), c.b...)
		want(t, told("JoinTags", c.a, c.b), told(record.JoinTags(a, b), a, b, a[:9], b[:9]), told(c.want, c.a, c.b, append(c.a, make([]string, 9-len(c.a))...), append(c.b, make([]string, 9-len(c.b))...)))
	}
}

func TestB1IsLapName(t *testing.T) {
	for _, s := range []string{"", " ", "~", "a  b", strings.Repeat("x", 60)} {
		want(t, s, told(record.IsLapName(s)), "true")
	}
	for _, s := range []string{"\n", "\x1f", "a\x7f", "ü", strings.Repeat("x", 61)} {
		want(t, s, told(record.IsLapName(s)), "false")
	}
}

func TestB1Span(t *testing.T) {
	a := ride()
	want(t, "three samples", told(record.Span(a)), "63")
	a.Samples = a.Samples[:1]
	want(t, "one sample", told(record.Span(a)), "0")
	a.Samples = nil
	want(t, "without samples", told(record.Span(a)), "0")
}
