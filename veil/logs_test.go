package veil_test

import (
	"math/rand"
	"slices"
	"strings"
	"testing"

	"harrier/api"
	"harrier/effort"
	"harrier/record"
	"harrier/veil"
)

func TestJ4Totals(t *testing.T) {
	l := []api.Activity{full(), walk([]int{0, 50, 50}, []int{30, 90, 80, 7}), walk(), walk([]int{0})}
	want(t, "all", told(veil.Totals(api.Veil{}, 0, l)), "{4 257 18 60} 0")
	want(t, "without heights", told(veil.Totals(veilOf(field(1, api.FieldHeight)), 1, l)), "{4 257 0 60} 0")
	want(t, "without the first sample", told(veil.Totals(veilOf(place(1, 0, 0, 0)), 1, l)), "{3 157 8 50} 0")
	want(t, "by squares", told(veil.Totals(veilOf(grid(1, 100)), 1, l)), "{4 200 18 60} 0")
	want(t, "without walks", told(veil.Totals(veilOf(sport(1, api.Walk)), 1, l)), "{0 0 0 0} 0")
	want(t, "without hills", told(veil.Totals(veilOf(tag(1, "hill")), 1, l)), "{2 50 7 30} 0")
}

// TestJ4TotalsWords adds up streams.
func TestJ4TotalsWords(t *testing.T) {
	r := rand.New(rand.NewSource(104))
	for range 5000 {
		v, level, l := randomVeil(r, 5), r.Intn(4), []api.Activity{randomActivity(r), randomActivity(r)}
		var sums api.Sums
		for _, a := range l {
			for _, p := range slowSee(v, level, a) {
				way, _ := effort.Stream(p, api.StreamWay)
				climb, _ := effort.Stream(p, api.StreamClimb)
				sums.Many++
				for i := range way {
					sums.Way += way[i]
					sums.Climb += climb[i]
					sums.Seconds++
				}
			}
		}
		want(t, told(v, level, l), told(veil.Totals(v, level, l)), told(sums, 0))
	}
}

func TestJ4Curve(t *testing.T) {
	l := []api.Activity{full(), walk([]int{0, 50, 50}, []int{30, 90, 80, 7}), walk()}
	curve := func(v api.Veil, kind int, sizes ...int) string { return told(veil.Curve(v, 1, l, kind, sizes)) }
	want(t, "pulse", curve(api.Veil{}, api.StreamPulse, 1, 10, 11, 20, 21), "[{1 103 0 true} {10 1030 0 true} {11 1110 9 true} {20 2010 0 true} {21 0 0 false}] 0")
	want(t, "ways", curve(api.Veil{}, api.StreamWay, 1, 20, 30), "[{1 10 0 true} {20 200 0 true} {30 50 0 true}] 0")
	want(t, "a hidden field", curve(veilOf(field(1, api.FieldPulse)), api.StreamPulse, 1, 2), "[{1 0 0 false} {2 0 0 false}] 0")
	want(t, "hidden activities", curve(veilOf(sport(1, api.Walk)), api.StreamWay, 1, 1_000_000), "[{1 0 0 false} {1000000 0 0 false}] 0")
	for _, kind := range []int{0, 6, -1, least, greatest} {
		want(t, told("no stream", kind), curve(api.Veil{}, kind, 1), "[] 7")
		want(t, told("no stream, no sizes", kind), curve(veilOf(sport(1, api.Walk)), kind), "[] 7")
	}
	for _, v := range []api.Veil{{}, veilOf(sport(1, api.Walk))} {
		want(t, "no sizes", curve(v, 1), "[] 13")
		want(t, "size 0", curve(v, 1, 0), "[] 9")
		want(t, "too great a size", curve(v, 1, 1, effort.MaxStream+1), "[] 9")
		want(t, "sizes that fall", curve(v, 5, 2, 2), "[] 10")
		want(t, "too many sizes", curve(v, 5, make([]int, 101)...), "[] 3")
	}
}

// TestJ4CurveWords looks for the first window of the greatest sum, piece by piece.
func TestJ4CurveWords(t *testing.T) {
	r := rand.New(rand.NewSource(105))
	sizes := []int{1, 2, 7, 60, 90}
	for range 5000 {
		v, level, kind, l := randomVeil(r, 4), r.Intn(4), 1+r.Intn(5), []api.Activity{randomActivity(r), randomActivity(r)}
		pieces := slices.Concat(slowSee(v, level, l[0]), slowSee(v, level, l[1]))
		var wanted []api.Best
		for _, size := range sizes {
			most := api.Best{Size: size}
			for _, p := range pieces {
				stream, _ := effort.Stream(p, kind)
				x, _ := effort.Best(stream, size)
				if x.Found && (!most.Found || most.Sum < x.Sum) {
					most = x
				}
			}
			wanted = append(wanted, most)
		}
		want(t, told(v, level, kind, l), told(veil.Curve(v, level, l, kind, sizes)), told(wanted, 0))
	}
}

// fileOf returns the bytes of an activity, with their number ahead.
func fileOf(a api.Activity, big bool) []byte {
	f, _ := record.FileOf(a, big)
	b, _ := record.Write(f)
	n := len(b)
	return append([]byte{byte(n / 256 / 256 / 256), byte(n / 256 / 256 % 256), byte(n / 256 % 256), byte(n % 256)}, b...)
}

// TestJ4Export holds Export to the files of pieces, and Import to the pieces.
func TestJ4Export(t *testing.T) {
	r := rand.New(rand.NewSource(106))
	for range 3000 {
		v, level, big := randomVeil(r, 4), r.Intn(4), r.Intn(2) == 0
		l := []api.Activity{randomActivity(r), randomActivity(r)}[:r.Intn(3)]
		var wanted []byte
		var pieces []api.Activity
		for _, a := range l {
			for _, p := range slowSee(v, level, a) {
				wanted = append(wanted, fileOf(p, big)...)
				pieces = append(pieces, p)
			}
		}
		b, e := veil.Export(v, level, l, big)
		want(t, told(v, level, big, l), told(string(b), e), told(string(wanted), 0))
		back, e := veil.Import(b)
		if !sameAll(back, pieces) || e != api.OK {
			t.Fatalf("%v, %v: import %v, %v", v, l, back, e)
		}
	}
	b, e := veil.Export(api.Veil{}, 0, nil, true)
	want(t, "nothing", told(b, e), "[] 0")
	want(t, "nothing, read", told(veil.Import(nil)), "[] 0")
}

// TestJ4ExportRange has pieces behind the last moment of a file, and pieces that are not, as something is hidden.
func TestJ4ExportRange(t *testing.T) {
	const last = 1<<32 - 2
	a := walk([]int{0}, []int{10}, []int{20, 5})
	export := func(start int, l ...api.VeilRule) string {
		a.Start = start
		b, e := veil.Export(veilOf(l...), 1, []api.Activity{full(), a}, false)
		return told(len(b) > 0, e)
	}
	want(t, "the last moment", export(last-20), "true 0")
	want(t, "one more", export(last-19), "false 9")
	want(t, "one more, its end hidden", export(last-19, place(1, 5, 0, 0)), "true 0")
	want(t, "one more, days only", export(last-19, day(1)), "true 0")
	want(t, "one more, all hidden", export(last-19, sport(1, api.Walk)), "false 0")
	want(t, "the last moment of all", export(api.MaxMoment-20), "false 9")
	want(t, "the last moment of all, for oneself", export(api.MaxMoment-20, place(2, 5, 0, 0)), "false 9")
}

// long makes an activity of so many samples, some of which are half a minute apart, for which a file has four bytes more.
func long(many, apart int) api.Activity {
	a := api.Activity{Name: "long", Sport: api.Ride}
	for i, at := 0, 0; i < many; i++ {
		a.Samples = append(a.Samples, api.Sample{At: at, X: i, Y: -i, Z: i % 7, Pulse: 150, Power: -1, Steps: i % 90})
		at++
		if i < apart {
			at += 31
		}
	}
	return a
}

// longLog makes a log whose export has just so many bytes.
func longLog(t *testing.T, bytes int) (l []api.Activity) {
	greatest := long(api.MaxSamples, 0)
	most := len(fileOf(greatest, true))
	for ; bytes > 2*most; bytes -= most {
		l = append(l, greatest)
	}
	for bytes > 0 {
		many := api.MaxSamples / 2
		short := len(fileOf(long(many, 0), true))
		if bytes < 2*short {
			many += (bytes-short)/19 - 99
			short = len(fileOf(long(many, 0), true))
		}
		apart := 0
		if bytes-short < short {
			for (bytes-short-4*apart)%19 != 0 {
				apart++
			}
			many += (bytes - short - 4*apart) / 19
		}
		l = append(l, long(many, apart))
		bytes -= len(fileOf(l[len(l)-1], true))
	}
	return l
}

func TestJ4Size(t *testing.T) {
	const most = 100_000_000
	l := longLog(t, most)
	b, e := veil.Export(api.Veil{}, 3, l, true)
	want(t, "as many bytes as can be", told(len(b), e), "100000000 0")
	back, e := veil.Import(b)
	want(t, "as many bytes as can be, read", told(sameAll(back, l), e), "true 0")
	want(t, "a byte more, read", told(veil.Import(append(b, 0))), "[] 3")
	want(t, "a byte more, all wrong", told(veil.Import(make([]byte, most+1))), "[] 3")
	last := &l[len(l)-1].Samples
	(*last)[len(*last)-1].At += 31
	b, e = veil.Export(api.Veil{}, 3, l, true)
	want(t, "four bytes more", told(b, e), "[] 3")
	late := walk([]int{0})
	late.Start = api.MaxMoment
	want(t, "too many, and then too late", told(veil.Export(api.Veil{}, 3, append(l, l[0], late, l[0]), true)), "[] 9")
}

func TestJ4Import(t *testing.T) {
	a := fileOf(full(), false)
	none := []byte("HAR1\x00\x00\x00\x00")
	sum := record.Sum(none)
	none = append([]byte{0, 0, 0, 12}, append(none, byte(sum>>24), byte(sum>>16), byte(sum>>8), byte(sum))...)
	wrong := slices.Clone(a)
	wrong[40]++
	noName := walk([]int{0})
	f, _ := record.FileOf(noName, true)
	f.Entries[1].Data[4] = ' '
	bad, _ := record.Write(f)
	bad = append([]byte{0, 0, 0, byte(len(bad))}, bad...)
	for _, c := range []struct {
		what string
		b    []byte
		e    api.Errno
	}{
		{"right", a, api.OK},
		{"a byte is missing", a[:len(a)-1], api.ErrSyntax},
		{"four bytes alone", a[:4], api.ErrSyntax},
		{"three bytes", a[:3], api.ErrSyntax},
		{"one byte", a[:1], api.ErrSyntax},
		{"a number alone", []byte{255, 255, 255, 255}, api.ErrSyntax},
		{"a file without bytes", []byte{0, 0, 0, 0}, api.ErrSyntax},
		{"a number that is too small", append([]byte{0, 0, 0, a[3] - 1}, a[4:]...), api.ErrSyntax},
		{"another sum", wrong, api.ErrArg},
		{"no activity", none, api.ErrNone},
		{"no name", bad, api.ErrName},
		{"a great file that is missing", []byte{127, 0, 0, 0, 1}, api.ErrSyntax},
	} {
		l, e := veil.Import(c.b)
		want(t, c.what, told(len(l) > 0, e), told(c.e == api.OK, c.e))
		l, e = veil.Import(slices.Concat(a, c.b))
		want(t, c.what+", behind another one", told(len(l) == 2, len(l) > 0, e), told(c.e == api.OK, c.e == api.OK, c.e))
	}
	want(t, "the first one is wrong", told(veil.Import(slices.Concat(wrong, none, a[:3]))), "[] 1")
	want(t, "the second one is wrong", told(veil.Import(slices.Concat(a, none, wrong, a[:3]))), "[] 4")
	b, _ := veil.Export(veilOf(name(1)), 1, []api.Activity{full(), full()}, true)
	want(t, "so many pieces", told(strings.Count(string(b), "HAR1")), "4")
}

func TestJ4Tells(t *testing.T) {
	a := full()
	changes := []struct {
		what   string
		change func(b *api.Activity)
		by     api.VeilRule // that hides it
	}{
		{"name", func(b *api.Activity) { b.Name = "other" }, name(2)},
		{"tags", func(b *api.Activity) { b.Tags = nil }, name(2)},
		{"a lap's name", func(b *api.Activity) { b.Laps = slices.Clone(b.Laps); b.Laps[0].Name = "" }, name(2)},
		{"start", func(b *api.Activity) { b.Start++ }, day(2)},
		{"place", func(b *api.Activity) { b.Samples[1].X++ }, grid(2, 10)},
		{"height", func(b *api.Activity) { b.Samples[1].Z++ }, field(2, api.FieldHeight)},
		{"pulse", func(b *api.Activity) { b.Samples[1].Pulse++ }, field(2, api.FieldPulse)},
		{"power", func(b *api.Activity) { b.Samples[1].Power++ }, field(2, api.FieldPower)},
		{"steps", func(b *api.Activity) { b.Samples[1].Steps++ }, field(2, api.FieldSteps)},
		{"all of a sample", func(b *api.Activity) { b.Samples[1] = api.Sample{At: 10, X: 100, Y: 1} }, place(2, 100, 0, 1)},
	}
	for _, c := range changes {
		b := full()
		c.change(&b)
		want(t, c.what+", hidden", told(veil.Tells(veilOf(c.by), 2, a, b)), "false 0")
		for _, x := range changes {
			// With a sample, all that it has is hidden, and its laps.
			if x.by != c.by && x.by.Kind != api.VeilPlace {
				want(t, c.what+" by the rule of "+x.what, told(veil.Tells(veilOf(x.by), 2, a, b)), "true 0")
			}
			want(t, c.what+", a level below "+x.what, told(veil.Tells(veilOf(x.by), 1, a, b)), "true 0")
		}
		want(t, c.what+", of hidden ones", told(veil.Tells(veilOf(sport(1, api.Walk)), 1, a, b)), "false 0")
	}
	want(t, "the same", told(veil.Tells(api.Veil{}, 3, a, full())), "false 0")
	other := full()
	other.Sport = api.Run
	want(t, "another sport", told(veil.Tells(veilOf(name(1), day(1), grid(1, 1_000_000)), 3, a, other)), "true 0")
	want(t, "one is hidden", told(veil.Tells(veilOf(sport(1, api.Run)), 3, a, other)), "true 0")
	want(t, "one has a piece less", told(veil.Tells(api.Veil{}, 0, a, walk())), "true 0")
}

// TestJ4TellsWords compares what See returns.
func TestJ4TellsWords(t *testing.T) {
	r := rand.New(rand.NewSource(107))
	for range 10000 {
		v, level, a := randomVeil(r, 6), r.Intn(4), randomActivity(r)
		b := disguised(r, v, 1+r.Intn(3), a)
		want(t, told(v, level, a, b), told(veil.Tells(v, level, a, b)), told(!sameAll(slowSee(v, level, a), slowSee(v, level, b)), 0))
	}
}

func TestJ4Audience(t *testing.T) {
	a := walk([]int{0, 5, 5, 1}, []int{10, 15, 5}, []int{70, 15, 15})
	a.Samples[0].Pulse, a.Samples[2].Steps = 100, 80
	a.Laps = []api.Lap{{From: 0, To: 10, Name: "lap"}, {From: 10, To: 70}}
	a.Tags = []string{"hill"}
	audience := func(l ...api.VeilRule) string { return told(veil.Audience(veilOf(l...), a)) }
	want(t, "no rules", audience(), "3 true 0")
	for from := 1; from <= 3; from++ {
		for _, r := range []api.VeilRule{place(from, 5, 5, 0), hours(from, 1010, 1010), hours(from, 1070, 1080), field(from, api.FieldPulse), field(from, api.FieldSteps), field(from, api.FieldHeight), tag(from, "hill"), sport(from, api.Walk), day(from), name(from), grid(from, 2)} {
			want(t, told(r), audience(r), told(from-1, true, 0))
		}
		for _, r := range []api.VeilRule{place(from, 4, 5, 0), hours(from, 1071, 86399), field(from, api.FieldPower), tag(from, "town"), sport(from, api.Run), grid(from, 5)} {
			want(t, told(r), audience(r), "3 true 0")
		}
	}
	want(t, "the least of them", audience(day(3), place(2, 5, 5, 0)), "1 true 0")
	a.Samples[2].At = 71
	a.Laps = a.Laps[:1]
	want(t, "two pieces", audience(), "0 false 0")
	a.Samples[2].At, a.Laps[0].To = 70, 11
	want(t, "a lap that ends between samples", audience(), "0 false 0")
	want(t, "no samples", told(veil.Audience(api.Veil{}, walk())), "0 false 0")
	plain := walk([]int{0, 10, 10})
	plain.Name, plain.Start = "activity", 86400
	want(t, "rules that change nothing", told(veil.Audience(veilOf(name(1), day(1), grid(1, 5), field(1, 1), field(1, 2), field(1, 3), field(1, 4)), plain)), "3 true 0")
}

// TestJ4AudienceWords asks all levels.
func TestJ4AudienceWords(t *testing.T) {
	r := rand.New(rand.NewSource(108))
	seen := [veil.MaxLevel + 2]int{}
	for range 20000 {
		v, a := randomVeil(r, 3), randomActivity(r)
		last := -1
		for level := 0; level <= veil.MaxLevel; level++ {
			if sameAll(slowSee(v, level, a), []api.Activity{a}) {
				last = level
			}
		}
		seen[last+1]++
		want(t, told(v, a), told(veil.Audience(v, a)), told(max(last, 0), last >= 0, 0))
	}
	if slices.Min(seen[:]) < 100 {
		t.Error("not often: ", seen)
	}
}
