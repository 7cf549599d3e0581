package record_test

import (
	"math"
	"math/rand"
	"strings"
	"testing"

	"harrier/api"
	"harrier/record"
)

func TestB4Times(t *testing.T) {
	for _, c := range [][2]string{
		{"", "[] 0"},
		{"define 0 0 little 253:4:0;data 0 01020000;data 0 ffffffff;data 0 feffffff;short 0 30 -;short 0 29 -", "[-1 513 -1 4294967294 4294967294 4294967325] 0"},
		{"define 0 0 big 1:1:0 253:4:0;data 0 aa00000201;short 0 1 aa;short 0 0 aa;short 0 31 aa;short 0 31 aa", "[-1 513 513 544 575 575] 0"},
		{"define 0 0 big 253:2:0;data 0 0001;define 1 0 big 253:4:1;data 1 00000001;define 2 0 big 253:4:2;data 2 00000001;define 3 0 big 252:4:0;data 3 00000001", "[-1 -1 -1 -1 -1 -1 -1 -1] 0"},
		{"define 0 0 big 253:4:0;data 0 00000000;data 0 00000064;data 0 0000000a;short 0 11 -;data 0 ffffffff;short 0 10 -", "[-1 0 100 10 11 -1 42] 0"},
		{"define 0 0 big 253:4:0;define 3 0 little 253:4:0;data 0 00000064;data 3 65000000;define 5 0 little;data 5 -;short 0 4 -;define 3 0 big 253:4:0;short 3 3 -", "[-1 -1 100 101 -1 -1 132 -1 163] 0"},
	} {
		var f api.File
		if c[0] != "" {
			f = file(strings.Split(c[0], ";")...)
		}
		l, e := record.Times(f)
		want(t, c[0], told(l, e), c[1])
	}
}

func TestB4Random(t *testing.T) {
	r := rand.New(rand.NewSource(4))
	for range 20_000 {
		f := randomFile(r)
		what := textOf(f.Entries)
		l, e := record.Times(f)
		want(t, what, told(l, e), told(times(f), 0))
		for _, global := range []int{0, 19, 20, 30, 65535, 1} {
			var wanted []int
			for k, x := range f.Entries {
				if d, _ := definition(f.Entries[:k], x.Slot); x.Kind != api.EntryDefine && d.Global == global {
					wanted = append(wanted, k)
				}
			}
			l, e = record.Find(f, global)
			want(t, what, told(l, e), told(wanted, 0))
		}
		widened(t, f)
	}
}

// widened asks Widen for a file with no short data, with the same times and values.
func widened(t *testing.T, f api.File) {
	t.Helper()
	what := textOf(f.Entries)
	g, e := record.Widen(f)
	for k, n := range times(f) {
		if n > 1<<32-2 {
			want(t, what, told(len(g.Entries), e), "0 9")
			return
		} else if f.Entries[k].Kind == api.EntryShort {
			x := &f.Entries[k]
			d, _ := definition(f.Entries[:k], x.Slot)
			at, _ := timeField(d)
			time := []byte{byte(n >> 24), byte(n >> 16), byte(n >> 8), byte(n)}
			if !d.Big {
				time = []byte{byte(n), byte(n >> 8), byte(n >> 16), byte(n >> 24)}
			}
			*x = api.Entry{Kind: api.EntryData, Slot: x.Slot, Data: []byte(string(x.Data[:at]) + string(time) + string(x.Data[at:]))}
		}
	}
	want(t, what, told(e), "0")
	same(t, what, g, f)
}

func TestB4Find(t *testing.T) {
	f := file("define 0 0 big 253:4:0", "data 0 00000000", "short 0 1 -", "define 1 65535 big", "data 1 -", "define 0 65535 big", "data 0 -", "define 1 7 big", "data 1 -", "define 2 0 big")
	for global, wanted := range map[int]string{0: "[1 2] 0", 65535: "[4 6] 0", 7: "[8] 0", 1: "[] 0", -1: "[] 9", 65536: "[] 9", math.MinInt: "[] 9", math.MaxInt: "[] 9"} {
		l, e := record.Find(f, global)
		want(t, told("Find", global), told(l, e), wanted)
	}
}

func TestB4Widen(t *testing.T) {
	f := file("define 1 9 big 1:1:0 253:4:0 2:2:2", "define 0 8 little 253:4:0", "data 1 aa00000103bbcc", "short 1 2 ddeeff", "data 0 ffffffff", "short 0 31 -")
	g, e := record.Widen(f)
	want(t, "Widen", told(e), "0")
	same(t, "Widen", g, file("define 1 9 big 1:1:0 253:4:0 2:2:2", "define 0 8 little 253:4:0", "data 1 aa00000103bbcc", "data 1 dd00000122eeff", "data 0 ffffffff", "data 0 3f010000"))
	for offset, wanted := range map[string]string{"30": "3 0", "31": "0 9", "29": "0 9"} {
		g, e = record.Widen(file("define 0 8 big 253:4:0", "data 0 fffffffe", "short 0 "+offset+" -"))
		want(t, "Widen at the end of times, "+offset, told(len(g.Entries), e), wanted)
	}
	g, e = record.Widen(api.File{})
	want(t, "Widen of nothing", told(len(g.Entries), e), "0 0")
	untouched(t, "Widen", f, func(f api.File) []any { g, _ := record.Widen(f); return []any{g} })
	untouched(t, "Times", f, func(f api.File) []any { l, _ := record.Times(f); return []any{l} })
}

func TestB6Without(t *testing.T) {
	f := file("define 0 9 big 253:4:0", "data 0 00000064", "define 0 9 big 253:4:0", "short 0 5 -", "data 0 ffffffff", "data 0 00000005", "short 0 6 -", "define 1 9 big 1:1:0")
	for _, c := range []struct {
		l, left []int
		want    api.Errno
	}{
		{nil, []int{0, 1, 2, 3, 4, 5, 6, 7}, api.OK}, {[]int{}, []int{0, 1, 2, 3, 4, 5, 6, 7}, api.OK}, {[]int{2}, []int{0, 1, 3, 4, 5, 6, 7}, api.OK}, {[]int{3, 4}, []int{0, 1, 2, 5, 6, 7}, api.OK},
		{[]int{4, 6, 7}, []int{0, 1, 2, 3, 5}, api.OK}, {[]int{3, 5, 6}, []int{0, 1, 2, 4, 7}, api.OK}, {[]int{0, 1, 3}, []int{2, 4, 5, 6, 7}, api.OK}, {[]int{0, 1, 2, 3, 4, 5, 6, 7}, nil, api.OK},
		{[]int{0}, nil, api.ErrState}, {[]int{0, 2}, nil, api.ErrState}, {[]int{1}, nil, api.ErrState}, {[]int{5}, nil, api.ErrState},
		{[]int{8}, nil, api.ErrNone}, {[]int{-1}, nil, api.ErrNone}, {[]int{math.MaxInt}, nil, api.ErrNone}, {[]int{math.MinInt}, nil, api.ErrNone}, {[]int{1, 8}, nil, api.ErrNone}, {[]int{3, -1}, nil, api.ErrNone},
		{[]int{2, 2}, nil, api.ErrOrder}, {[]int{3, 2}, nil, api.ErrOrder}, {[]int{3, 2, 8}, nil, api.ErrOrder}, {[]int{1, 1}, nil, api.ErrOrder},
	} {
		g, e := record.Without(f, c.l)
		var left api.File
		for _, k := range c.left {
			left.Entries = append(left.Entries, f.Entries[k])
		}
		want(t, told("without", c.l), told(e), told(c.want))
		same(t, told("without", c.l), g, left)
	}
	untouched(t, "Without", f, func(f api.File) []any { g, _ := record.Without(f, []int{7}); return []any{g} })
	l := []int{2, 7, 5}[:2]
	record.Without(f, l)
	want(t, "the list", told(l[:3]), "[2 7 5]")
}

// TestB6WithoutTimes leaves out a definition, or data, so that others are right with another time.
func TestB6WithoutTimes(t *testing.T) {
	for _, c := range []struct {
		want  string
		k     int
		lines string
	}{
		{"0 11", 1, "define 0 9 big 253:4:0;define 0 9 little 253:4:0;data 0 00000064"},
		{"2 0", 1, "define 0 9 big 253:4:0;define 0 9 little 253:4:0;data 0 64000064"},
		{"0 11", 1, "define 0 9 big 253:4:0;define 0 9 big 1:4:0;data 0 00000064"},
		{"2 0", 1, "define 0 9 big 253:4:0;define 0 9 big 1:4:0;data 0 ffffffff"},
		{"0 2", 1, "define 0 9 big 253:4:0;define 0 9 big 1:2:0;data 0 0000"},
		{"2 0", 1, "define 0 9 big 1:2:0;define 0 8 big 2:2:2;data 0 0000"},
		{"3 0", 2, "define 0 9 big 253:4:0;data 0 00000001;data 0 00000002;short 0 3 -"},
		{"0 11", 2, "define 0 9 big 253:4:0;data 0 00000001;data 0 00000022;short 0 3 -"},
		{"0 11", 2, "define 0 9 big 253:4:0;data 0 00000001;data 0 00000002;short 0 1 -"},
	} {
		g, e := record.Without(file(strings.Split(c.lines, ";")...), []int{c.k})
		want(t, told(c.lines, "without", c.k), told(len(g.Entries), e), c.want)
	}
}

func TestB6WithoutRandom(t *testing.T) {
	r := rand.New(rand.NewSource(6))
	for range 20_000 {
		f := randomFile(r)
		var l, kept []int
		var left api.File
		for k, x := range f.Entries {
			if r.Intn(4) == 0 {
				l = append(l, k)
			} else {
				left.Entries = append(left.Entries, x)
				kept = append(kept, timeAt(f.Entries, k))
			}
		}
		e := checked(left)
		if e == api.OK && told(kept) != told(times(left)) {
			e = api.ErrState
		}
		if e != api.OK {
			left = api.File{}
		}
		g, got := record.Without(f, l)
		want(t, told(textOf(f.Entries), l), told(got), told(e))
		same(t, "without", g, left)
	}
}
