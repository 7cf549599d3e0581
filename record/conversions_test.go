package record_test

import (
	"math/rand"
	"slices"
	"strings"
	"testing"

	"harrier/api"
	"harrier/record"
)

const activityLines = "define 0 0 big 1:3:2 2:1:0 253:4:0;data 0 6162000200000064"

func TestB6Activity(t *testing.T) {
	for _, c := range [][2]string{
		{activityLines, "{ab 2 100 [] [] []} 0"},
		{"define 0 0 little 253:4:0 2:2:0 1:1:2 9:1:3;data 0 64000000050061ff;data 0 6500000001006200", "{a 5 100 [] [] []} 0"},
		{activityLines + ";define 1 20 big 253:4:0 0:1:1 1:2:1 2:4:1 3:4:0 4:1:0 5:2:0;data 1 00000064fffffefffffffd00000001020003;data 1 000000650000000000000000000000ff00ff;short 1 6 000000000000000000000000ffff", "{ab 2 100 [{0 -1 -2 -3 1 2 3} {1 0 0 0 0 -1 255} {2 0 0 0 0 0 -1}] [] []} 0"},
		{activityLines + ";define 1 20 big 253:4:0 2:1:1 1:1:1 0:1:1;data 1 00000064010203;short 1 5 040506;define 3 19 little 253:4:0 1:2:0;data 3 640000006500;short 3 4 6600", "{ab 2 100 [{0 3 2 1 -1 -1 -1} {1 6 5 4 -1 -1 -1}] [{0 1 }] []} 9"},
		{activityLines + ";define 1 20 big 253:4:0 2:1:1 1:1:1 0:1:1 3:1:1 4:1:2 5:1:3;data 1 00000064010203040506", "{ab 2 100 [{0 3 2 1 -1 -1 -1}] [] []} 0"},
		{activityLines + ";define 1 20 big 253:4:0 0:1:1 1:1:1 2:1:1;data 1 00000064000000;data 1 0000006e000000;define 3 19 big 253:4:0 1:4:0 2:2:2;data 3 00000064000000654100;define 3 19 big 253:4:0 1:1:0 2:2:1;short 3 5 6e0000", "{ab 2 100 [{0 0 0 0 -1 -1 -1} {10 0 0 0 -1 -1 -1}] [{0 1 A} {1 10 }] []} 0"},
		{"define 2 30 little 1:4:2;data 2 79000000;" + activityLines + ";define 2 30 little 2:1:0 1:1:2;data 2 007a;data 0 63000009000000ff;define 7 31 big;data 7 -", "{ab 2 100 [] [] [y z]} 0"},
		{activityLines + ";define 1 20 big 253:4:0 0:1:1 1:1:1 2:1:1;define 2 0 little 2:1:0 253:4:0 1:1:2;short 2 0 0161", "{ab 2 100 [] [] []} 0"},
		{"define 1 21 big 253:4:0;data 1 00000064;define 2 0 little 2:1:0 253:4:0 1:1:2;short 2 0 0161", "{a 1 128 [] [] []} 0"},
	} {
		a, e := record.Activity(file(strings.Split(c[0], ";")...))
		if strings.HasSuffix(c[1], "9") {
			c[1] = "{ 0 0 [] [] []} 9"
		}
		want(t, c[0], told(a, e), c[1])
	}
}

func TestB6ActivityErrors(t *testing.T) {
	sample := ";define 1 20 big 253:4:0 0:1:1 1:1:1 2:1:1;"
	for _, c := range []struct {
		lines string
		want  api.Errno
	}{
		{"define 0 0 big 1:3:2 2:1:0 253:4:0", api.ErrNone}, {"define 0 1 big 1:3:2 2:1:0 253:4:0;data 0 6162000200000064", api.ErrNone},
		{"define 0 0 big 1:3:2 2:1:0 253:4:0;data 0 61620002ffffffff", api.ErrNone}, {"define 0 0 big 1:3:2 2:1:0 253:4:0;data 0 616200ff00000064", api.ErrNone}, {"define 0 0 big 1:3:2 2:1:0 253:4:0;data 0 0062000200000064", api.ErrNone},
		{"define 0 0 big 1:3:3 2:1:0 253:4:0;data 0 6161610200000064", api.ErrNone}, {"define 0 0 big 1:3:2 2:1:1 253:4:0;data 0 6162000200000064", api.ErrNone}, {"define 0 0 big 1:3:2 2:1:0 253:4:1;data 0 6162000200000064", api.ErrNone}, {"define 0 0 big 1:3:2 2:1:0;data 0 61620002", api.ErrNone}, {"define 0 0 big 1:3:2 253:4:0;data 0 61620000000064", api.ErrNone}, {"define 0 0 big 2:1:0 253:4:0;data 0 0200000064", api.ErrNone},
		{"define 0 0 big 1:3:2 2:1:0 253:4:0;data 0 00000002ffffffff;data 0 6162000200000064", api.ErrNone},
		{"define 1 20 big;data 1 -", api.ErrNone},
		{activityLines + ";define 1 20 big 0:1:1 1:1:1 2:1:1;data 1 000000", api.ErrForm}, {activityLines + sample + "data 1 ffffffff000000", api.ErrForm}, {activityLines + sample + "data 1 000000647f0000", api.ErrForm}, {activityLines + sample + "data 1 00000064007f00", api.ErrForm}, {activityLines + sample + "data 1 0000006400007f", api.ErrForm},
		{activityLines + ";define 1 20 big 253:4:0 0:1:0 1:1:1 2:1:1;data 1 00000064000000", api.ErrForm}, {activityLines + ";define 1 20 big 253:4:0 0:1:1 2:1:1;data 1 000000640000", api.ErrForm}, {activityLines + ";define 1 20 big 253:4:0 0:1:1 1:1:1 2:1:3;data 1 00000064000000", api.ErrForm}, {activityLines + ";define 1 20 big 253:4:0 0:1:1 1:1:1;data 1 000000640000", api.ErrForm},
		{activityLines + ";define 1 19 big 1:4:0;data 1 00000064", api.ErrForm}, {activityLines + ";define 1 19 big 253:4:0 2:1:2;data 1 0000006400", api.ErrForm}, {activityLines + ";define 1 19 big 253:4:0 1:1:0;data 1 00000064ff", api.ErrForm}, {activityLines + ";define 1 19 big 253:4:0 1:1:1;data 1 0000006465", api.ErrForm}, {activityLines + ";define 1 19 big 253:4:0 1:1:0;data 1 ffffffff65", api.ErrForm},
		{activityLines + ";define 1 30 big 1:1:2;data 1 00", api.ErrForm}, {activityLines + ";define 1 30 big 2:1:2;data 1 61", api.ErrForm}, {activityLines + ";define 1 30 big 1:1:3;data 1 61", api.ErrForm},
		{activityLines + ";define 1 30 big 1:1:2;data 1 20", api.ErrName}, {activityLines + ";define 1 30 big 1:1:2;data 1 62;data 1 61", api.ErrOrder}, {"define 0 0 big 1:3:2 2:1:0 253:4:0;data 0 2062000200000064", api.ErrName}, {"define 0 0 big 1:3:2 2:1:0 253:4:0;data 0 6162000600000064", api.ErrKind},
		{activityLines + sample + "data 1 00000063000000", api.ErrOrder}, {activityLines + sample + "data 1 00000065000000", api.ErrOrder}, {activityLines + sample + "data 1 00000064000000;short 1 4 000000", api.ErrOrder}, {activityLines + sample + "data 1 00000064000000;short 1 3 000000", api.OK},
		{activityLines + ";define 1 20 big 253:4:0 0:1:1 1:1:1 2:1:1 3:2:0;data 1 00000064000000012d", api.ErrRange}, {activityLines + ";define 1 20 big 253:4:0 0:1:1 1:1:1 2:1:1 3:2:0;data 1 00000064000000012c", api.OK},
		{activityLines + ";define 1 30 big 1:1:2;data 1 20;data 1 00", api.ErrForm}, {"define 1 30 big 1:1:2;data 1 00", api.ErrNone},
	} {
		a, e := record.Activity(file(strings.Split(c.lines, ";")...))
		want(t, c.lines, told(len(a.Samples)+len(a.Laps)+len(a.Tags)+a.Start > 0, e), told(c.want == api.OK, c.want))
	}
}

func TestB7FileOf(t *testing.T) {
	name := "526964655f312e78" + strings.Repeat("00", 52)
	tag := func(s string) string { return s + strings.Repeat("00", 60-len(s)/2) }
	wanted := []string{
		"define 0 0 big 253:4:0 1:60:2 2:1:0", "data 0 000003e8" + name + "02",
		"define 3 30 big 1:60:2", "data 3 " + tag("61"), "data 3 " + tag("612e"), "data 3 " + tag("62"),
		"define 2 19 big 253:4:0 1:4:0 2:60:2", "data 2 000003e8000003f2" + tag("7570207e"), "data 2 000003f200000427" + tag(""),
		"define 1 20 big 253:4:0 0:4:1 1:4:1 2:4:1 3:2:0 4:2:0 5:2:0",
		"data 1 000003e80000000affffffec0000001e0064ffff0050", "short 1 7 0000000bffffffeb0000001fffff00c8ffff", "data 1 000004270000000cffffffeaffffffe0007800000000",
	}
	f, e := record.FileOf(ride(), true)
	want(t, "FileOf", told(e), "0")
	same(t, "FileOf", f, file(wanted...))
	f, e = record.FileOf(ride(), false)
	want(t, "FileOf, little", told(e), "0")
	want(t, "FileOf, little", textOf(f.Entries[len(f.Entries)-4:]), strings.Join([]string{
		"define 1 20 little 253:4:0 0:4:1 1:4:1 2:4:1 3:2:0 4:2:0 5:2:0",
		"data 1 e80300000a000000ecffffff1e0000006400ffff5000", "short 1 7 0b000000ebffffff1f000000ffffc800ffff", "data 1 270400000c000000eaffffffe0ffffff780000000000", ""}, "\n"))
	a := ride()
	a.Samples, a.Laps, a.Tags = nil, nil, nil
	f, e = record.FileOf(a, true)
	want(t, "FileOf of little", told(e), "0")
	same(t, "FileOf of little", f, file(wanted[:2]...))
}

func TestB7FileOfErrors(t *testing.T) {
	for _, c := range []struct {
		what   string
		change func(a *api.Activity)
		want   string
	}{
		{"wrong", func(a *api.Activity) { a.Name = "" }, "0 8"},
		{"wrong, and late", func(a *api.Activity) { a.Start, a.Sport = 1<<32, 0 }, "0 7"},
		{"the last time", func(a *api.Activity) { a.Start = 1<<32 - 2 - 63 }, "13 0"},
		{"a second later", func(a *api.Activity) { a.Start = 1<<32 - 1 - 63 }, "0 9"},
		{"start 0", func(a *api.Activity) { a.Start = 0 }, "13 0"},
		{"the last start", func(a *api.Activity) { a.Start, a.Samples, a.Laps = 1<<32-2, nil, nil }, "6 0"},
		{"a start behind it", func(a *api.Activity) { a.Start, a.Samples, a.Laps = 1<<32-1, nil, nil }, "0 9"},
	} {
		a := ride()
		c.change(&a)
		f, e := record.FileOf(a, true)
		want(t, c.what, told(len(f.Entries), e), c.want)
		if e == api.OK {
			b, e := record.Activity(f)
			want(t, c.what, told(b, e), told(a, 0))
		}
	}
}

// randomActivity makes a right activity.
func randomActivity(r *rand.Rand) api.Activity {
	a := api.Activity{Name: randomName(r), Sport: 1 + r.Intn(5), Start: r.Intn(1<<31) * r.Intn(2)}
	at := 0
	for range r.Intn(8) {
		a.Samples = append(a.Samples, api.Sample{
			At: at, X: r.Intn(2*api.MaxPlace+1) - api.MaxPlace, Y: r.Intn(3) - 1, Z: r.Intn(2*api.MaxHeight+1) - api.MaxHeight,
			Pulse: r.Intn(api.MaxPulse+2) - 1, Power: r.Intn(api.MaxPower+2) - 1, Steps: r.Intn(3) - 1})
		at += []int{1, 2, 30, 31, 32, 33, 64, 1 + r.Intn(1000)}[r.Intn(8)]
	}
	from := 0
	for len(a.Samples) > 0 && from < a.Samples[len(a.Samples)-1].At && r.Intn(4) > 0 {
		from += r.Intn(a.Samples[len(a.Samples)-1].At-from) * r.Intn(2)
		to := from + 1 + r.Intn(a.Samples[len(a.Samples)-1].At-from)
		a.Laps = append(a.Laps, api.Lap{From: from, To: to, Name: []string{"", "a lap", strings.Repeat("~", 60)}[r.Intn(3)]})
		from = to
	}
	for range r.Intn(4) {
		a.Tags = append(a.Tags, randomName(r))
	}
	slices.Sort(a.Tags)
	a.Tags = slices.Compact(a.Tags)
	return a
}

func randomName(r *rand.Rand) string {
	return strings.Repeat("aZ0-_."[r.Intn(6):], 10)[:1+r.Intn(10)]
}

func TestB7ThereAndBack(t *testing.T) {
	r := rand.New(rand.NewSource(7))
	for range 5_000 {
		a := randomActivity(r)
		big := r.Intn(2) == 0
		want(t, told(a), told(record.Check(a)), "0")
		f, e := record.FileOf(a, big)
		want(t, told(a), told(e, checked(f)), "0 0")
		short := 0
		for i := 1; i < len(a.Samples); i++ {
			if a.Samples[i].At-a.Samples[i-1].At < 32 {
				short++
			}
		}
		for _, x := range f.Entries {
			if x.Kind == api.EntryShort {
				short--
			}
			if x.Kind == api.EntryDefine && x.Define[0].Big != big {
				t.Errorf("%v: not all definitions have the order %v", a, big)
			}
		}
		want(t, told(a, "short"), told(short), "0")
		b, e := record.Activity(f)
		want(t, told(a), told(b, e, record.Same(a, b)), told(a, 0, true))
		bytes, e := record.Write(f)
		g, at, e2 := record.Read(bytes)
		want(t, told(a), told(e, at, e2), "0 0 0")
		same(t, told(a), g, f)
		g, e = record.Widen(f)
		b, e2 = record.Activity(g)
		want(t, told(a), told(b, e, e2), told(a, 0, 0))
	}
}

func TestB7Largest(t *testing.T) {
	a := api.Activity{Name: strings.Repeat("x", 60), Sport: api.Walk, Start: 5, Samples: manySamples(api.MaxSamples), Laps: manyLaps(api.MaxLaps), Tags: manyTags(api.MaxTags)}
	f, e := record.FileOf(a, true)
	want(t, "FileOf", told(len(f.Entries), e), "20225 0")
	b, e := record.Activity(f)
	want(t, "Activity", told(record.Same(a, b), e), "true 0")
	f.Entries = append(f.Entries, api.Entry{Kind: api.EntryShort, Slot: 1, Data: make([]byte, 18)})
	b, e = record.Activity(f)
	want(t, "Activity of one more", told(b, e), "{ 0 0 [] [] []} 3")
}

func TestB7OwnMemory(t *testing.T) {
	f, _ := record.FileOf(ride(), true)
	untouched(t, "Activity", f, func(f api.File) []any { a, _ := record.Activity(f); return []any{a} })
	a := ride()
	g, _ := record.FileOf(a, true)
	for i := range g.Entries {
		clear(g.Entries[i].Data)
		clear(g.Entries[i].Define)
	}
	want(t, "the argument", told(a), told(ride()))
	h, _ := record.FileOf(a, true)
	same(t, "FileOf once more", h, f)
}
