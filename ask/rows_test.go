package ask_test

import (
	"fmt"
	"math/rand"
	"strings"
	"testing"

	"harrier/api"
	"harrier/ask"
	"harrier/effort"
)

func TestL1RowOf(t *testing.T) {
	a := api.Activity{
		Name: "hill", Sport: api.Ski, Start: 1000, Tags: []string{"a", "b"}, Laps: []api.Lap{{From: 0, To: 4, Name: "up"}},
		Samples: []api.Sample{{At: 0}, {At: 10, X: 30, Y: 40, Z: 7, Pulse: 100}, {At: 20, X: 30, Y: 40, Z: 3}, {At: 30, X: 31, Y: 41, Z: 9}, {At: 91, X: 900, Z: 900}},
	}
	want(t, "a step of more than a minute has no way", told(ask.RowOf(a, 50)), "{hill 5 1000 51 13 91 50 [a b]} 0")
	a.Samples[4].At = 90
	want(t, "one of a minute has one", told(ask.RowOf(a, 0)), "{hill 5 1000 920 904 90 0 [a b]} 0")
	want(t, "the greatest load", told(ask.RowOf(a, 1000000)), "{hill 5 1000 920 904 90 1000000 [a b]} 0")
	want(t, "more load", told(ask.RowOf(a, 1000001)), "{ 0 0 0 0 0 0 []} 9")
	want(t, "less load", told(ask.RowOf(a, -1)), "{ 0 0 0 0 0 0 []} 9")
	want(t, "without samples", told(ask.RowOf(api.Activity{Name: "b", Sport: 1}, 7)), "{b 1 0 0 0 0 7 []} 0")
	a.Tags[1] = "a"
	want(t, "a wrong activity", told(ask.RowOf(a, 7)), "{ 0 0 0 0 0 0 []} 10")
	want(t, "a wrong activity, and load", told(ask.RowOf(a, -1)), "{ 0 0 0 0 0 0 []} 10")
	a.Sport = 6
	want(t, "another wrong activity", told(ask.RowOf(a, -1)), "{ 0 0 0 0 0 0 []} 7")
	a.Samples[4].At = 20
	want(t, "a wrong span", told(ask.RowOf(a, -1)), "{ 0 0 0 0 0 0 []} 7")
}

// longest goes from one corner of the plane to the other as often as an activity can.
func longest() api.Activity {
	a := api.Activity{Name: "long", Sport: api.Ride}
	for i := range api.MaxSamples {
		far := api.MaxPlace * (2*(i%2) - 1)
		a.Samples = append(a.Samples, api.Sample{At: 50 * i, X: far, Y: far, Z: far / 1000})
	}
	return a
}

// TestL1Sums adds up streams.
func TestL1Sums(t *testing.T) {
	r := rand.New(rand.NewSource(121))
	list := []api.Activity{longest()}
	for range 300 {
		a := api.Activity{Name: "a", Sport: api.Run, Start: 5}
		for at := 0; r.Intn(8) > 0; at += 1 + r.Intn(80) {
			a.Samples = append(a.Samples, api.Sample{At: at, X: r.Intn(500), Y: r.Intn(500), Z: r.Intn(99)})
		}
		list = append(list, a)
	}
	for _, a := range list {
		way, climb, seconds := 0, 0, 0
		ways, _ := effort.Stream(a, api.StreamWay)
		climbs, _ := effort.Stream(a, api.StreamClimb)
		for i, n := range ways {
			way, climb, seconds = way+n, climb+climbs[i], i+1
		}
		got, e := ask.RowOf(a, 3)
		want(t, fmt.Sprint("RowOf ", len(a.Samples)), told(got, e), told(api.Row{Name: a.Name, Sport: a.Sport, Start: a.Start, Way: way, Climb: climb, Seconds: seconds, Load: 3}, 0))
		want(t, "CheckRow", told(ask.CheckRow(got)), "0")
	}
}

// with returns the full row with something changed.
func with(change func(r *api.Row)) api.Row {
	r := full()
	change(&r)
	return r
}

func letters(n int) []string { return many(n, func(i int) string { return string(rune('a' + i)) }) }

func TestL1CheckRow(t *testing.T) {
	for _, c := range []struct {
		what   string
		change func(r *api.Row)
		want   string
	}{
		{"right", func(r *api.Row) {}, "0"},
		{"all at their least", func(r *api.Row) { *r = api.Row{Name: "a", Sport: 1} }, "0"},
		{"all at their most", func(r *api.Row) {
			*r = api.Row{Name: strings.Repeat("a", 60), Sport: 5, Start: api.MaxMoment, Way: 1e13, Climb: 1e13, Seconds: 1e13, Load: 1e13, Tags: letters(20)}
		}, "0"},
		{"no name", func(r *api.Row) { r.Name = "" }, "8"},
		{"a long name", func(r *api.Row) { r.Name = strings.Repeat("a", 61) }, "8"},
		{"a blank", func(r *api.Row) { r.Name = "a b" }, "8"},
		{"no sport", func(r *api.Row) { r.Sport = 0 }, "7"},
		{"the sport 6", func(r *api.Row) { r.Sport = 6 }, "7"},
		{"Start below", func(r *api.Row) { r.Start = -1 }, "9"},
		{"Start above", func(r *api.Row) { r.Start = api.MaxMoment + 1 }, "9"},
		{"Way below", func(r *api.Row) { r.Way = -1 }, "9"},
		{"Way above", func(r *api.Row) { r.Way = 1e13 + 1 }, "9"},
		{"Climb below", func(r *api.Row) { r.Climb = -1 }, "9"},
		{"Climb above", func(r *api.Row) { r.Climb = 1e13 + 1 }, "9"},
		{"Seconds below", func(r *api.Row) { r.Seconds = -1 }, "9"},
		{"Seconds above", func(r *api.Row) { r.Seconds = 1e13 + 1 }, "9"},
		{"Load below", func(r *api.Row) { r.Load = -1 }, "9"},
		{"Load above", func(r *api.Row) { r.Load = 1e13 + 1 }, "9"},
		{"too many tags", func(r *api.Row) { r.Tags = letters(21) }, "3"},
		{"too many tags, all wrong", func(r *api.Row) { r.Tags = make([]string, 21) }, "3"},
		{"a tag that is none", func(r *api.Row) { r.Tags = []string{"a", ""} }, "8"},
		{"a tag twice", func(r *api.Row) { r.Tags = []string{"a", "a", ""} }, "10"},
		{"a tag that is none, then one twice", func(r *api.Row) { r.Tags = []string{"", "a", "a"} }, "8"},
		{"tags that fall", func(r *api.Row) { r.Tags = []string{"b", "a"} }, "10"},
		{"Name and Sport", func(r *api.Row) { r.Name, r.Sport = "", 9 }, "8"},
		{"Sport and Start", func(r *api.Row) { r.Sport, r.Start = 0, -1 }, "7"},
		{"Load and Tags", func(r *api.Row) { r.Load, r.Tags = -1, letters(21) }, "9"},
	} {
		r := with(c.change)
		want(t, c.what, told(ask.CheckRow(r)), c.want)
		want(t, c.what+", Holds", told(ask.Holds(allOf(), r)), told(c.want == "0", c.want))
		for _, l := range [][]api.Row{{r}, {row("z", 5), r}, {row("z", 5), r, {}}, {row("z", 5), r, row("z", 5)}} {
			_, e := ask.Answer(api.Query{Where: allOf(), Tells: []api.Tell{{Kind: 1}}}, l)
			_, f := ask.Badges(nil, l)
			if c.want != "0" || len(l) < 3 {
				want(t, c.what+", of several", told(e, f), c.want+" "+c.want)
			}
		}
		want(t, c.what+", Put", told(ask.NewLog().Put(r)), c.want)
	}
}

// TestL1Lists asks for the errors of lists of rows.
func TestL1Lists(t *testing.T) {
	q := api.Query{Where: allOf(), Tells: []api.Tell{{Kind: api.TellMany}}}
	for _, c := range []struct {
		what string
		l    []api.Row
		want string
	}{
		{"as many as can be", numbered(5000), "0"}, {"one more", numbered(5001), "3"}, {"too many, all wrong", make([]api.Row, 5001), "3"},
		{"a name twice", append(numbered(5), row("r2", 77)), "5"}, {"a name twice, wrong the second time", append(numbered(5), row("r2", -1)), "9"},
		{"a name twice, then a wrong row", append(numbered(5), row("r2", 2), api.Row{}), "5"}, {"a wrong row, then a name twice", append(numbered(5), api.Row{}, row("r2", 2)), "8"},
		{"other letters", []api.Row{row("a", 1), row("A", 1)}, "0"},
	} {
		_, e := ask.Answer(q, c.l)
		_, f := ask.Badges(nil, c.l)
		want(t, c.what, told(e, f), c.want+" "+c.want)
	}
}

// TestL1Numbers asks for each number of a row by what holds for it.
func TestL1Numbers(t *testing.T) {
	r := api.Row{Name: "a", Sport: api.Run, Start: 10*api.DayLong + 77, Way: 100, Climb: 20, Seconds: 300, Load: 40}
	for n, number := range []int{0, 10*api.DayLong + 77, 10, 100, 20, 300, 40, 3} {
		if n == 0 {
			continue
		}
		for _, c := range []struct {
			low, high int
			want      bool
		}{{number, number, true}, {number - 1, number, true}, {number, number + 1, true}, {-1e15, 1e15, true}, {number + 1, number + 9, false}, {number - 9, number - 1, false}, {-9, -1, false}} {
			want(t, fmt.Sprint("the number ", n, " from ", c.low, " to ", c.high), told(ask.Holds(field(n, c.low, c.high), r)), told(c.want, 0))
		}
	}
	for day := range 15 {
		for _, second := range []int{0, api.DayLong - 1} {
			r.Start = day*api.DayLong + second
			want(t, "day", told(ask.Holds(allOf(field(2, day, day), field(7, day%7, day%7)), r)), "true 0")
		}
	}
}
