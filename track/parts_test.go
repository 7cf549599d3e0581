package track_test

import (
	"fmt"
	"math"
	"math/rand"
	"slices"
	"testing"

	"harrier/api"
	"harrier/record"
	"harrier/track"
)

const nothing = "{ 0 0 [] [] []}"

func TestC10Cut(t *testing.T) {
	a := full()
	for _, c := range []struct {
		from, to int
		want     string
	}{
		{0, 9, told(a, api.OK)},
		{3, 6, "{walk 4 1003 [{0 4 4 9 -1 200 -1} {3 5 5 5 110 -1 -1}] [{0 1 one} {1 3 two}] [a b]} 0"},
		{1, 8, "{walk 4 1001 [{0 1 1 3 100 -1 -1} {2 4 4 9 -1 200 -1} {5 5 5 5 110 -1 -1} {7 5 5 6 110 -1 -1}] [{0 3 one} {3 7 two}] [a b]} 0"},
		{4, 5, "{walk 4 1004 [{0 4 4 8 -1 200 -1} {1 5 5 6 -1 200 -1}] [{0 1 two}] [a b]} 0"},
		{0, 1, "{walk 4 1000 [{0 0 0 0 100 -1 -1} {1 1 1 3 100 -1 -1}] [{0 1 one}] [a b]} 0"},
		{0, 10, nothing + " 9"}, {-1, 3, nothing + " 9"}, {3, 3, nothing + " 9"}, {4, 3, nothing + " 9"}, {9, 10, nothing + " 9"},
		{math.MinInt, math.MaxInt, nothing + " 9"}, {math.MaxInt, math.MinInt, nothing + " 9"},
	} {
		b, e := track.Cut(a, c.from, c.to)
		want(t, fmt.Sprint("Cut ", c.from, c.to), told(b, e), c.want)
	}
	b, e := track.Cut(walk(), 0, 1)
	want(t, "without samples", told(b, e), nothing+" 13")
	b, e = track.Cut(walk(), 1, 0)
	want(t, "without samples, and a wrong range", told(b, e), nothing+" 13")
	b, e = track.Cut(walk([]int{0}), 0, 0)
	want(t, "one sample", told(b, e), nothing+" 9")
	end := walk([]int{0}, []int{5, 1})
	end.Start = api.MaxMoment - 5
	b, e = track.Cut(end, 4, 5)
	want(t, "the last moments", told(b.Start, len(b.Samples), e), told(api.MaxMoment-1, 2, api.OK))
	randoms(15, 60, func(r *rand.Rand, a api.Activity) {
		span := record.Span(a)
		if span == 0 {
			return
		}
		from := r.Intn(span)
		to := from + 1 + r.Intn(span-from)
		b, e := track.Cut(a, from, to)
		c := a
		c.Start += from
		c.Samples = nil
		for second := from; second <= to; second++ {
			x := slowAt(a, second)
			if second == from || second == to || slices.Contains(a.Samples, x) {
				x.At -= from
				c.Samples = append(c.Samples, x)
			}
		}
		want(t, fmt.Sprint("laps of Cut ", from, to, " of ", a), told(lapsOf(b)), told(slowPart(a, from, to-from)))
		c.Laps = b.Laps
		want(t, fmt.Sprint("Cut ", from, to, " of ", a), told(b, e), told(c, api.OK))
		want(t, "Check", told(record.Check(b)), "0")
	})
}

func TestC10Join(t *testing.T) {
	a, b := full(), full()
	b.Name, b.Tags = "other", []string{"B", "a", "c"}
	tests := []struct {
		what   string
		change func(a, b *api.Activity)
		want   string
	}{
		{"with the same sample", func(a, b *api.Activity) { b.Start = 1009 },
			"{walk 4 1000 [{0 0 0 0 100 -1 -1} {3 4 4 9 -1 200 -1} {6 5 5 5 110 -1 -1} {9 5 5 6 -1 210 -1} {12 4 4 9 -1 200 -1} {15 5 5 5 110 -1 -1} {18 5 5 6 -1 210 -1}] [{0 4 one} {4 9 two} {9 13 one} {13 18 two}] [B a b c]} 0"},
		{"a second later", func(a, b *api.Activity) { b.Start, b.Samples = 1010, b.Samples[:2]; b.Laps = nil },
			"{walk 4 1000 [{0 0 0 0 100 -1 -1} {3 4 4 9 -1 200 -1} {6 5 5 5 110 -1 -1} {9 5 5 6 -1 210 -1} {10 0 0 0 100 -1 -1} {13 4 4 9 -1 200 -1}] [{0 4 one} {4 9 two}] [B a b c]} 0"},
		{"a second earlier", func(a, b *api.Activity) { b.Start = 1008 }, nothing + " 11"},
		{"before", func(a, b *api.Activity) { b.Start = 0 }, nothing + " 11"},
		{"another sport", func(a, b *api.Activity) { b.Sport = api.Run }, nothing + " 7"},
		{"another sport, and before", func(a, b *api.Activity) { b.Sport, b.Start = api.Run, 0 }, nothing + " 7"},
		{"without samples", func(a, b *api.Activity) { a.Samples, a.Laps, b.Samples, b.Laps = nil, nil, nil, nil },
			"{walk 4 1000 [] [] [B a b c]} 0"},
		{"the first one without samples", func(a, b *api.Activity) { a.Samples, a.Laps, b.Samples, b.Laps = nil, nil, b.Samples[:1], nil },
			"{walk 4 1000 [{0 0 0 0 100 -1 -1}] [] [B a b c]} 0"},
		{"the first one without samples, and earlier", func(a, b *api.Activity) { a.Samples, a.Laps, b.Start = nil, nil, 1001 }, nothing + " 10"},
		{"the other one without samples", func(a, b *api.Activity) { a.Laps, b.Samples, b.Laps, b.Start = nil, nil, nil, api.MaxMoment },
			"{walk 4 1000 [{0 0 0 0 100 -1 -1} {3 4 4 9 -1 200 -1} {6 5 5 5 110 -1 -1} {9 5 5 6 -1 210 -1}] [] [B a b c]} 0"},
		{"a long pause", func(a, b *api.Activity) {
			b.Start, b.Samples, b.Laps = 1001000, b.Samples[:1], nil
			a.Samples, a.Laps = a.Samples[:1], nil
		},
			"{walk 4 1000 [{0 0 0 0 100 -1 -1} {1000000 0 0 0 100 -1 -1}] [] [B a b c]} 0"},
		{"a pause that is too long", func(a, b *api.Activity) { b.Start, b.Samples, b.Laps = 1001001, b.Samples[:1], nil }, nothing + " 9"},
		{"too many tags", func(a, b *api.Activity) { b.Start = 2000; a.Tags, b.Tags = tags(0, 11), tags(10, 21) }, nothing + " 3"},
		{"the pause and the tags", func(a, b *api.Activity) { b.Start = 1002000; a.Tags, b.Tags = tags(0, 11), tags(10, 21) }, nothing + " 3"},
		{"too many tags, and before", func(a, b *api.Activity) { a.Tags, b.Tags = tags(0, 11), tags(10, 21) }, nothing + " 11"},
	}
	for _, c := range tests {
		x, y := roomy(a), roomy(b)
		c.change(&x, &y)
		z, e := track.Join(x, y)
		want(t, "Join, "+c.what, told(z, e), c.want)
	}
}

func tags(from, to int) []string {
	var l []string
	for i := from; i < to; i++ {
		l = append(l, string(rune('a'+i)))
	}
	return l
}

// laps makes so many laps of a second.
func laps(many int) []api.Lap {
	var l []api.Lap
	for i := range many {
		l = append(l, api.Lap{From: i, To: i + 1})
	}
	return l
}

func TestC10JoinSizes(t *testing.T) {
	for _, c := range []struct {
		samples, later, laps, tags int
		want                       string
	}{
		{10000, 10000, 100, 10, "20000 200 20 0"}, {10000, 9999, 100, 10, "19999 200 20 0"}, {10001, 10001, 1, 1, "0 0 0 3"}, {10001, 10000, 1, 1, "20000 2 2 0"},
		{300, 300, 101, 1, "0 0 0 3"}, {300, 300, 1, 11, "0 0 0 3"},
	} {
		a, b := long(c.samples), long(10000)
		a.Laps, b.Laps = laps(c.laps), laps(min(c.laps, 100))
		a.Tags, b.Tags = tags(0, c.tags), tags(c.tags, c.tags+min(c.tags, 10))
		b.Start = a.Start + c.later
		z, e := track.Join(a, b)
		want(t, fmt.Sprint("Join ", c), told(len(z.Samples), len(z.Laps), len(z.Tags), e), c.want)
	}
	a := walk([]int{0})
	a.Tags = tags(0, 20)
	z, e := track.Join(a, a)
	want(t, "the same tags", told(len(z.Tags), e), "20 0")
}

// TestC10PartsAddUp: lengths, spans and climbs of the parts of an activity that is cut at a sample, and the parts joined again.
func TestC10PartsAddUp(t *testing.T) {
	sums := func(a api.Activity) [4]int {
		ways, _ := track.Ways(a)
		z, _ := track.Climb(a, 0)
		return [4]int{ways[len(ways)-1], record.Span(a), z.Up, z.Down}
	}
	randoms(15, 60, func(r *rand.Rand, a api.Activity) {
		for i := 1; i < len(a.Samples)-1; i++ {
			at := a.Samples[i].At
			b, e := track.Cut(a, 0, at)
			want(t, "error", told(e), "0")
			c, e := track.Cut(a, at, record.Span(a))
			want(t, "error", told(e), "0")
			x, y, z := sums(a), sums(b), sums(c)
			for k := range x {
				want(t, fmt.Sprint("sum ", k, " of ", a, " cut at ", at), told(y[k]+z[k]), told(x[k]))
			}
			if !slices.ContainsFunc(a.Laps, func(x api.Lap) bool { return x.From < at && at < x.To }) {
				d, e := track.Join(b, c)
				want(t, fmt.Sprint("joined again at ", at), told(d, e), told(a, api.OK))
			}
		}
	})
}
