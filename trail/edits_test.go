package trail_test

import (
	"fmt"
	"math"
	"math/rand"
	"slices"
	"strings"
	"testing"

	"harrier/api"
	"harrier/record"
	"harrier/track"
	"harrier/trail"
)

// numberRange has from where to where N of a kind can be, and the error if it is not.
var numberRanges = []struct {
	kind, low, high int
	e               api.Errno
}{
	{trail.EditSport, 1, 5, api.ErrKind},
	{trail.EditShift, -86399999999, 86399999999, api.ErrRange},
	{trail.EditRaise, -200000, 200000, api.ErrRange},
	{trail.EditField, 1, 3, api.ErrRange},
	{trail.EditLevel, 0, 50, api.ErrRange},
	{trail.EditFill, 0, 1000000, api.ErrRange},
	{trail.EditUnlap, 0, 199, api.ErrRange},
}

func wantCheck(t *testing.T, x api.Edit, e api.Errno) {
	t.Helper()
	want(t, fmt.Sprint("CheckEdit of ", x), told(trail.CheckEdit(x)), told(e))
}

func TestK1Numbers(t *testing.T) {
	for _, c := range numberRanges {
		for _, n := range []int{c.low, c.high, c.low + 1, c.high - 1, (c.low + c.high) / 2} {
			wantCheck(t, number(c.kind, n), api.OK)
		}
		for _, n := range []int{c.low - 1, c.high + 1, math.MinInt, math.MaxInt} {
			wantCheck(t, number(c.kind, n), c.e)
		}
	}
}

func TestK1Texts(t *testing.T) {
	long := strings.Repeat("x", 60)
	for _, kind := range []int{trail.EditName, trail.EditTag, trail.EditUntag} {
		for _, s := range []string{"a", "Z", "0", "-", "_", ".", long} {
			wantCheck(t, text(kind, s), api.OK)
		}
		for _, s := range []string{"", "a b", "\x00", "ä", "a\n", "#", "~", "/", long + "x"} {
			wantCheck(t, text(kind, s), api.ErrName)
		}
	}
	for _, s := range []string{"", " ", "~", "a  b", "#,;", long, strings.Repeat(" ", 60)} {
		wantCheck(t, lap(0, 1, s), api.OK)
	}
	for _, s := range []string{"\x1f", "\x7f", "a\n", "ä", "\xff", long + "x", strings.Repeat("x", 100000)} {
		wantCheck(t, lap(0, 1, s), api.ErrName)
		wantCheck(t, lap(1, 1, s), api.ErrRange)
	}
}

func TestK1Spans(t *testing.T) {
	for _, make := range []func(from, to int) api.Edit{crop, func(from, to int) api.Edit { return lap(from, to, "x") }} {
		for _, c := range [][2]int{{0, 1}, {0, 1000000}, {999999, 1000000}, {5, 7}} {
			wantCheck(t, make(c[0], c[1]), api.OK)
		}
		for _, c := range [][2]int{{0, 0}, {5, 5}, {6, 5}, {-1, 5}, {-2, -1}, {0, 1000001}, {1000000, 1000000}, {1000000, 1000001}, {math.MinInt, math.MaxInt}, {0, math.MaxInt}, {0, math.MinInt}} {
			wantCheck(t, make(c[0], c[1]), api.ErrRange)
		}
	}
}

// uses has the fields that a kind uses besides Kind.
var uses = []string{1: "s", 2: "n", 3: "s", 4: "s", 5: "n", 6: "n", 7: "n", 8: "ft", 9: "n", 10: "n", 11: "fts", 12: "n"}

// TestK1Form asks for the order of errors: that of the kind, of the form, of the others.
func TestK1Form(t *testing.T) {
	for _, kind := range []int{0, 13, -1, math.MinInt, math.MaxInt} {
		wantCheck(t, api.Edit{Kind: kind}, api.ErrKind)
		wantCheck(t, api.Edit{Kind: kind, N: 1, From: 1, To: 1, Text: "x"}, api.ErrKind)
	}
	for kind := 1; kind < len(uses); kind++ {
		// All that is used is right in one of them, and wrong in the other one.
		right, wrong := api.Edit{Kind: kind}, api.Edit{Kind: kind}
		for _, field := range uses[kind] {
			switch field {
			case 's':
				right.Text, wrong.Text = "x", "\n"
			case 'n':
				right.N, wrong.N = 1, math.MinInt
			case 'f':
				right.From, wrong.From = 1, -1
			case 't':
				right.To, wrong.To = 2, -2
			}
		}
		wantCheck(t, right, api.OK)
		for _, x := range []api.Edit{right, wrong} {
			for field, set := range map[string]func(x *api.Edit, by int){
				"s": func(x *api.Edit, by int) { x.Text = fmt.Sprint(by) },
				"n": func(x *api.Edit, by int) { x.N = by },
				"f": func(x *api.Edit, by int) { x.From = by },
				"t": func(x *api.Edit, by int) { x.To = by },
			} {
				for _, by := range []int{1, -1, 2} {
					more := x
					set(&more, by)
					if !strings.Contains(uses[kind], field) {
						wantCheck(t, more, api.ErrForm)
					}
				}
			}
		}
	}
}

func TestK2Apply(t *testing.T) {
	for _, c := range []struct {
		x    api.Edit
		want string
	}{
		{text(trail.EditName, "new"), "{new 4 1000 [{0 0 0 0 100 -1 80} {3 4 4 9 -1 200 -1} {6 5 5 5 110 -1 -1} {9 5 5 6 -1 210 -1}] [{0 4 one} {5 9 two}] [b d]} 0"},
		{number(trail.EditSport, 1), "{walk 1 1000 [{0 0 0 0 100 -1 80} {3 4 4 9 -1 200 -1} {6 5 5 5 110 -1 -1} {9 5 5 6 -1 210 -1}] [{0 4 one} {5 9 two}] [b d]} 0"},
		{tag("c"), "{walk 4 1000 [{0 0 0 0 100 -1 80} {3 4 4 9 -1 200 -1} {6 5 5 5 110 -1 -1} {9 5 5 6 -1 210 -1}] [{0 4 one} {5 9 two}] [b c d]} 0"},
		{tag("b"), none + " 5"},
		{untag("d"), "{walk 4 1000 [{0 0 0 0 100 -1 80} {3 4 4 9 -1 200 -1} {6 5 5 5 110 -1 -1} {9 5 5 6 -1 210 -1}] [{0 4 one} {5 9 two}] [b]} 0"},
		{untag("c"), none + " 4"},
		{shift(-1000), "{walk 4 0 [{0 0 0 0 100 -1 80} {3 4 4 9 -1 200 -1} {6 5 5 5 110 -1 -1} {9 5 5 6 -1 210 -1}] [{0 4 one} {5 9 two}] [b d]} 0"},
		{shift(-1001), none + " 9"},
		{shift(api.MaxMoment - 1009), "{walk 4 86399999990 [{0 0 0 0 100 -1 80} {3 4 4 9 -1 200 -1} {6 5 5 5 110 -1 -1} {9 5 5 6 -1 210 -1}] [{0 4 one} {5 9 two}] [b d]} 0"},
		{shift(api.MaxMoment - 1008), none + " 9"},
		{raise(99991), "{walk 4 1000 [{0 0 0 99991 100 -1 80} {3 4 4 100000 -1 200 -1} {6 5 5 99996 110 -1 -1} {9 5 5 99997 -1 210 -1}] [{0 4 one} {5 9 two}] [b d]} 0"},
		{raise(99992), none + " 9"},
		{raise(-100000), "{walk 4 1000 [{0 0 0 -100000 100 -1 80} {3 4 4 -99991 -1 200 -1} {6 5 5 -99995 110 -1 -1} {9 5 5 -99994 -1 210 -1}] [{0 4 one} {5 9 two}] [b d]} 0"},
		{raise(-100001), none + " 9"},
		{number(trail.EditField, 1), "{walk 4 1000 [{0 0 0 0 -1 -1 80} {3 4 4 9 -1 200 -1} {6 5 5 5 -1 -1 -1} {9 5 5 6 -1 210 -1}] [{0 4 one} {5 9 two}] [b d]} 0"},
		{number(trail.EditField, 2), "{walk 4 1000 [{0 0 0 0 100 -1 80} {3 4 4 9 -1 -1 -1} {6 5 5 5 110 -1 -1} {9 5 5 6 -1 -1 -1}] [{0 4 one} {5 9 two}] [b d]} 0"},
		{number(trail.EditField, 3), "{walk 4 1000 [{0 0 0 0 100 -1 -1} {3 4 4 9 -1 200 -1} {6 5 5 5 110 -1 -1} {9 5 5 6 -1 210 -1}] [{0 4 one} {5 9 two}] [b d]} 0"},
		{crop(2, 6), "{walk 4 1002 [{0 3 3 6 100 -1 80} {1 4 4 9 -1 200 -1} {4 5 5 5 110 -1 -1}] [{0 2 one} {3 4 two}] [b d]} 0"},
		{crop(2, 10), none + " 9"},
		{number(trail.EditLevel, 1), "{walk 4 1000 [{0 0 0 0 100 -1 80} {3 4 4 5 -1 200 -1} {6 5 5 6 110 -1 -1} {9 5 5 5 -1 210 -1}] [{0 4 one} {5 9 two}] [b d]} 0"},
		{number(trail.EditFill, 6), "{walk 4 1000 [{0 0 0 0 100 -1 80} {3 4 4 9 105 200 -1} {6 5 5 5 110 205 -1} {9 5 5 6 -1 210 -1}] [{0 4 one} {5 9 two}] [b d]} 0"},
		{lap(4, 5, "mid"), "{walk 4 1000 [{0 0 0 0 100 -1 80} {3 4 4 9 -1 200 -1} {6 5 5 5 110 -1 -1} {9 5 5 6 -1 210 -1}] [{0 4 one} {4 5 mid} {5 9 two}] [b d]} 0"},
		{lap(3, 5, "mid"), none + " 10"},
		{lap(4, 6, ""), none + " 10"},
		{lap(0, 4, ""), none + " 10"},
		{lap(0, 1, ""), none + " 10"},
		{lap(0, 9, ""), none + " 10"},
		{lap(6, 7, ""), none + " 10"},
		{lap(5, 10, ""), none + " 9"},
		{lap(9, 10, ""), none + " 9"},
		{number(trail.EditUnlap, 0), "{walk 4 1000 [{0 0 0 0 100 -1 80} {3 4 4 9 -1 200 -1} {6 5 5 5 110 -1 -1} {9 5 5 6 -1 210 -1}] [{5 9 two}] [b d]} 0"},
		{number(trail.EditUnlap, 1), "{walk 4 1000 [{0 0 0 0 100 -1 80} {3 4 4 9 -1 200 -1} {6 5 5 5 110 -1 -1} {9 5 5 6 -1 210 -1}] [{0 4 one}] [b d]} 0"},
		{number(trail.EditUnlap, 2), none + " 4"},
		{number(trail.EditUnlap, 199), none + " 4"},
		{number(trail.EditUnlap, 200), none + " 9"},
		{tag("a b"), none + " 8"},
		{api.Edit{Kind: trail.EditTag, N: 1, Text: "b"}, none + " 2"},
		{api.Edit{}, none + " 7"},
	} {
		want(t, fmt.Sprint("Apply ", c.x), told(trail.Apply(full(), c.x)), c.want)
	}
	want(t, "no samples to crop", told(trail.Apply(walk(5), crop(0, 1))), none+" 13")
	want(t, "no samples for a lap", told(trail.Apply(walk(5), lap(0, 1, ""))), none+" 9")
	want(t, "no samples to raise", told(trail.Apply(walk(5), raise(-200000))), "{walk 4 5 [] [] []} 0")
}

// TestK2Full has as many tags and laps as there can be.
func TestK2Full(t *testing.T) {
	a := long(1000)
	a.Tags = many(20, func(i int) string { return fmt.Sprintf("t%02d", i) })
	a.Laps = many(200, func(i int) api.Lap { return api.Lap{From: 2 * i, To: 2*i + 1} })
	for _, c := range []struct {
		x api.Edit
		e api.Errno
	}{{tag("new"), api.ErrSize}, {tag("t07"), api.ErrTwice}, {lap(1, 2, ""), api.ErrSize}, {lap(0, 1, ""), api.ErrSize}, {lap(900, 1001, ""), api.ErrSize}, {number(trail.EditUnlap, 199), api.OK}, {untag("t19"), api.OK}} {
		_, e := trail.Apply(a, c.x)
		want(t, fmt.Sprint("Apply ", c.x), told(e), told(c.e))
	}
	b, n, e := trail.All(a, []api.Edit{untag("t00"), tag("zz"), number(trail.EditUnlap, 0), lap(998, 999, "end")})
	want(t, "as many as before", told(len(b.Tags), b.Tags[19], len(b.Laps), b.Laps[199], n, e), "20 zz 200 {998 999 end} 0 0")
}

// slowApply does an edit by the words of the document.
func slowApply(a api.Activity, x api.Edit) (b api.Activity, e api.Errno) {
	if e := record.Check(a); e != api.OK {
		return b, e
	}
	if e := trail.CheckEdit(x); e != api.OK {
		return b, e
	}
	b = api.Activity{Name: a.Name, Sport: a.Sport, Start: a.Start, Samples: slices.Clone(a.Samples), Laps: slices.Clone(a.Laps)}
	isThere := false
	for _, s := range a.Tags {
		isThere = isThere || s == x.Text
		if x.Kind != trail.EditUntag || s != x.Text {
			b.Tags = append(b.Tags, s)
		}
	}
	switch x.Kind {
	case trail.EditName:
		b.Name = x.Text
	case trail.EditSport:
		b.Sport = x.N
	case trail.EditTag:
		if isThere {
			e = api.ErrTwice
		}
		b.Tags = append(b.Tags, x.Text)
		slices.Sort(b.Tags)
	case trail.EditUntag:
		if !isThere {
			e = api.ErrNone
		}
	case trail.EditShift:
		b.Start += x.N
	case trail.EditRaise, trail.EditField:
		for i, s := range a.Samples {
			b.Samples[i] = slowSample(s, x)
		}
	case trail.EditCrop:
		b, e = track.Cut(a, x.From, x.To)
	case trail.EditLevel:
		b, e = track.Level(a, x.N)
	case trail.EditFill:
		b, e = track.Fill(a, x.N)
	case trail.EditLap:
		b.Laps = append(b.Laps, api.Lap{From: x.From, To: x.To, Name: x.Text})
		slices.SortStableFunc(b.Laps, func(l, m api.Lap) int { return l.From - m.From })
	case trail.EditUnlap:
		if x.N >= len(a.Laps) {
			e = api.ErrNone
		} else {
			b.Laps = append(slices.Clone(a.Laps[:x.N]), a.Laps[x.N+1:]...)
		}
	}
	if e == api.OK {
		e = record.Check(b)
	}
	if e != api.OK {
		return api.Activity{}, e
	}
	return b, api.OK
}

func slowSample(s api.Sample, x api.Edit) api.Sample {
	l := [7]int{s.At, s.X, s.Y, s.Z, s.Pulse, s.Power, s.Steps}
	if x.Kind == trail.EditRaise {
		l[3] += x.N
	} else {
		l[3+x.N] = -1
	}
	return api.Sample{At: l[0], X: l[1], Y: l[2], Z: l[3], Pulse: l[4], Power: l[5], Steps: l[6]}
}

// slowAll does edits one after the other.
func slowAll(a api.Activity, l []api.Edit) (api.Activity, int, api.Errno) {
	for i, x := range l {
		b, e := slowApply(a, x)
		if e != api.OK {
			return b, i, e
		}
		a = b
	}
	return a, 0, api.OK
}

func TestK2Random(t *testing.T) {
	r := rand.New(rand.NewSource(112))
	seen := map[api.Errno]int{}
	for range 20000 {
		a, x := randomActivity(r), randomEdit(r)
		if r.Intn(20) == 0 {
			x.N++
		}
		if r.Intn(40) == 0 {
			a.Sport = 0
		}
		b, e := trail.Apply(a, x)
		seen[e]++
		want(t, fmt.Sprint("Apply ", x, " to ", a), told(b, e), told(slowApply(a, x)))
		l := randomEdits(r, 6)
		if record.Check(a) == api.OK {
			want(t, fmt.Sprint("All ", l, " of ", a), told(trail.All(a, l)), told(slowAll(a, l)))
		}
	}
	wantOften(t, seen, api.OK, api.ErrForm, api.ErrNone, api.ErrTwice, api.ErrKind, api.ErrRange, api.ErrOrder, api.ErrEmpty)
}

func TestK2Errors(t *testing.T) {
	wrong := full()
	wrong.Sport = 9
	want(t, "a wrong activity", told(trail.Apply(wrong, tag("x"))), none+" 7")
	wrong.Sport, wrong.Samples[2].At = 1, 3
	want(t, "a wrong activity, a wrong edit", told(trail.Apply(wrong, api.Edit{})), none+" 10")
	want(t, "a wrong activity that would be right", told(trail.Apply(api.Activity{Sport: 1}, text(trail.EditName, "x"))), none+" 8")
	want(t, "a wrong activity, a wrong edit", told(trail.All(wrong, []api.Edit{{}})), none+" 0 10")
	want(t, "a wrong activity, no edit", told(trail.All(wrong, nil)), none+" 0 10")
	want(t, "no edit", told(trail.All(full(), nil)), told(full(), 0, 0))
	for _, c := range []struct {
		l    []api.Edit
		want string
	}{
		{[]api.Edit{{}}, " 0 7"},
		{[]api.Edit{tag("x"), shift(1), tag("x"), {}}, " 2 5"},
		{[]api.Edit{tag("x"), shift(1), untag("y"), untag("z")}, " 2 4"},
		{[]api.Edit{tag("x"), shift(-1001), {}}, " 1 9"},
		{[]api.Edit{tag("x"), shift(1), lap(1, 2, ""), {}}, " 2 10"},
		{[]api.Edit{tag("x"), number(trail.EditLevel, 51)}, " 1 9"},
		{[]api.Edit{number(trail.EditUnlap, 0), number(trail.EditUnlap, 0), number(trail.EditUnlap, 0)}, " 2 4"},
	} {
		want(t, fmt.Sprint("All ", c.l), told(trail.All(full(), c.l)), none+c.want)
	}
	l := many(200, func(i int) api.Edit { return shift(1 + i) })
	b, n, e := trail.All(full(), l)
	want(t, "as many edits as can be", told(b.Start, n, e), "21100 0 0")
	want(t, "the last one is wrong", told(trail.All(full(), append(l[:199:199], api.Edit{}))), none+" 199 7")
	want(t, "too many, all wrong", told(trail.All(wrong, make([]api.Edit, 201))), none+" 0 3")
}
