package record_test

import (
	"math"
	"math/rand"
	"strings"
	"testing"

	"harrier/api"
	"harrier/record"
)

const (
	timed   = "define 0 20 little 253:4:0 3:1:0" // short data have one byte
	untimed = "define 1 21 big 1:2:1"
)

func field(number, size, kind int) api.FieldDef {
	return api.FieldDef{Number: number, Size: size, Type: kind}
}

// fields are n fields of a definition with the numbers from 0 on.
func fields(n, size, kind int) []api.FieldDef {
	var l []api.FieldDef
	for i := range n {
		l = append(l, field(i, size, kind))
	}
	return l
}

func define(d api.Def) api.Entry {
	return api.Entry{Kind: api.EntryDefine, Define: []api.Def{d}}
}

func TestB2CheckFileEntries(t *testing.T) {
	d := []api.Def{{}}
	for _, c := range []struct {
		what string
		x    api.Entry
		want api.Errno
	}{
		{"kind 0", api.Entry{}, api.ErrKind}, {"kind 4", api.Entry{Kind: 4, Slot: -1}, api.ErrKind},
		{"slot 15", api.Entry{Kind: 1, Slot: 15, Define: d}, api.OK}, {"slot 16", api.Entry{Kind: 1, Slot: 16, Define: d}, api.ErrRange}, {"slot -1", api.Entry{Kind: 1, Slot: -1, Define: d}, api.ErrRange},
		{"slot 16 of data", api.Entry{Kind: 2, Slot: 16}, api.ErrRange}, {"slot 15 of data", api.Entry{Kind: 2, Slot: 15}, api.ErrState}, {"slot 4 of short data", api.Entry{Kind: 3, Slot: 4}, api.ErrRange}, {"slot 3 of short data", api.Entry{Kind: 3, Slot: 3}, api.ErrState},
		{"great slot", api.Entry{Kind: 2, Slot: math.MaxInt}, api.ErrRange}, {"offset 32", api.Entry{Kind: 3, Offset: 32, Data: []byte{1}}, api.ErrRange}, {"offset -1", api.Entry{Kind: 3, Offset: -1, Data: []byte{1}}, api.ErrRange}, {"offset 31", api.Entry{Kind: 3, Offset: 31, Data: []byte{1}}, api.OK},
		{"offset of data", api.Entry{Kind: 2, Slot: 1, Offset: 1, Data: []byte{1, 2}}, api.ErrRange}, {"offset of a definition", api.Entry{Kind: 1, Offset: 1, Define: d}, api.ErrRange},
		{"no definition", api.Entry{Kind: 1}, api.ErrForm}, {"two definitions", api.Entry{Kind: 1, Define: []api.Def{{}, {}}}, api.ErrForm}, {"bytes of a definition", api.Entry{Kind: 1, Define: d, Data: []byte{1}}, api.ErrForm}, {"a definition in data", api.Entry{Kind: 2, Slot: 1, Define: d, Data: []byte{1, 2}}, api.ErrForm}, {"a definition in short data", api.Entry{Kind: 3, Define: d, Data: []byte{1}}, api.ErrForm},
		{"range ahead of form", api.Entry{Kind: 1, Slot: 16}, api.ErrRange}, {"form ahead of state", api.Entry{Kind: 2, Slot: 9, Define: d}, api.ErrForm}, {"form ahead of range", api.Entry{Kind: 1, Define: []api.Def{{Global: -1}}, Data: []byte{1}}, api.ErrForm},
		{"right data", api.Entry{Kind: 2, Slot: 1, Data: []byte{1, 2}}, api.OK}, {"a byte less", api.Entry{Kind: 2, Slot: 1, Data: []byte{1}}, api.ErrForm}, {"a byte more", api.Entry{Kind: 2, Slot: 1, Data: []byte{1, 2, 3}}, api.ErrForm}, {"no bytes", api.Entry{Kind: 2, Slot: 1}, api.ErrForm},
		{"short data with a time", api.Entry{Kind: 3, Data: []byte{1, 2, 3, 4, 5}}, api.ErrForm}, {"short data without bytes", api.Entry{Kind: 3}, api.ErrForm}, {"data without a time", api.Entry{Kind: 2, Data: []byte{1}}, api.ErrForm}, {"short data without a time field", api.Entry{Kind: 3, Slot: 1}, api.ErrState},
	} {
		f := file(timed, untimed, "data 0 0100000001")
		f.Entries = append(f.Entries, c.x)
		want(t, c.what, told(record.CheckFile(f)), told(c.want))
	}
}

func TestB2CheckFileDefinitions(t *testing.T) {
	for _, c := range []struct {
		what string
		d    api.Def
		want api.Errno
	}{
		{"nothing", api.Def{}, api.OK}, {"the greatest global", api.Def{Global: 65535}, api.OK}, {"above it", api.Def{Global: 65536}, api.ErrRange}, {"global -1", api.Def{Global: -1}, api.ErrRange},
		{"30 fields", api.Def{Fields: fields(30, 1, 0)}, api.OK}, {"31 fields", api.Def{Fields: fields(31, 1, 9)}, api.ErrSize}, {"global ahead of fields", api.Def{Global: -1, Fields: fields(31, 1, 0)}, api.ErrRange},
		{"number 255", api.Def{Fields: []api.FieldDef{field(255, 1, 0)}}, api.OK}, {"number 256", api.Def{Fields: []api.FieldDef{field(256, 1, 9)}}, api.ErrRange}, {"number -1", api.Def{Fields: []api.FieldDef{field(-1, 1, 0)}}, api.ErrRange},
		{"size 0", api.Def{Fields: fields(1, 0, 2)}, api.ErrRange}, {"size 255", api.Def{Fields: fields(2, 255, 2)}, api.OK}, {"size 256", api.Def{Fields: fields(1, 256, 2)}, api.ErrRange}, {"size -1", api.Def{Fields: fields(1, -1, 2)}, api.ErrRange}, {"a great size", api.Def{Fields: fields(2, math.MaxInt, 2)}, api.ErrRange},
		{"type 4", api.Def{Fields: fields(1, 3, 4)}, api.ErrKind}, {"type -1", api.Def{Fields: fields(1, 3, -1)}, api.ErrKind}, {"range ahead of type", api.Def{Fields: fields(1, 0, 4)}, api.ErrRange},
		{"form ahead of twice", api.Def{Fields: []api.FieldDef{field(1, 1, 0), field(1, 3, 0)}}, api.ErrForm}, {"twice", api.Def{Fields: []api.FieldDef{field(1, 1, 0), field(2, 1, 0), field(1, 2, 2)}}, api.ErrTwice}, {"twice ahead of range", api.Def{Fields: []api.FieldDef{field(1, 1, 0), field(1, 2, 2), field(256, 1, 0)}}, api.ErrTwice}, {"two times", api.Def{Fields: []api.FieldDef{field(253, 4, 0), field(253, 4, 0)}}, api.ErrTwice},
	} {
		want(t, c.what, told(record.CheckFile(api.File{Entries: []api.Entry{define(c.d)}})), told(c.want))
	}
	for size := 1; size < 10; size++ {
		for kind := range 4 {
			e := api.OK
			if kind < 2 && size != 1 && size != 2 && size != 4 {
				e = api.ErrForm
			}
			want(t, told("size", size, "type", kind), told(record.CheckFile(api.File{Entries: []api.Entry{define(api.Def{Fields: fields(1, size, kind)})}})), told(e))
		}
	}
}

// TestB2CheckFileAhead is about what entries ahead say.
func TestB2CheckFileAhead(t *testing.T) {
	for _, c := range []struct {
		want  api.Errno
		lines string
	}{
		{api.OK, ""},
		{api.OK, timed + ";data 0 0000000000;short 0 31 ff"},
		{api.ErrState, timed + ";short 0 31 ff;data 0 0000000000"},
		{api.ErrState, timed + ";data 0 ffffffff00;short 0 31 ff"},
		{api.OK, timed + ";data 0 feffffff00;short 0 31 ff"},
		{api.OK, timed + ";define 2 0 little 253:4:0;data 0 0000000000;short 2 1 -"},
		{api.OK, timed + ";data 0 0000000000;define 0 5 little 253:4:0;short 0 1 -"},
		{api.ErrForm, timed + ";data 0 0000000000;define 0 5 little 253:4:0;short 0 1 00"},
		{api.ErrState, timed + ";data 0 0000000000;define 0 5 little 1:1:0;short 0 1 00"},
		{api.ErrState, timed + ";data 0 0000000000;define 0 5 little 253:4:1;short 0 1 -"},
		{api.ErrState, timed + ";data 0 0000000000;define 0 5 little 253:2:0;short 0 1 -"},
		{api.ErrState, timed + ";data 0 0000000000;define 0 5 little 254:4:0;short 0 1 -"},
		{api.ErrState, "define 0 5 little 253:2:0 1:1:0;data 0 010001;define 0 5 little 253:4:0;short 0 1 -"},
		{api.ErrState, "data 0 -;define 0 5 little"},
		{api.OK, "define 0 5 little;data 0 -"},
		{api.ErrState, "define 1 5 little;data 0 -"},
		{api.ErrState, untimed + ";data 0 -;data 1 -"},
		{api.ErrForm, untimed + ";data 1 -;data 0 -"},
	} {
		var f api.File
		if c.lines != "" {
			f = file(strings.Split(c.lines, ";")...)
		}
		want(t, c.lines, told(record.CheckFile(f)), told(c.want))
	}
}

func TestB2CheckFileSize(t *testing.T) {
	f := file("define 0 0 big")
	for len(f.Entries) < record.MaxEntries {
		f.Entries = append(f.Entries, api.Entry{Kind: api.EntryData})
	}
	want(t, "the most", told(record.CheckFile(f)), "0")
	f.Entries = append(f.Entries, api.Entry{Kind: api.EntryData})
	want(t, "one more", told(record.CheckFile(f)), "3")
	f.Entries[0].Kind = 0
	want(t, "size first", told(record.CheckFile(f)), "3")
}

// spoilt changes something of a file, which is often wrong then.
func spoilt(r *rand.Rand, f api.File) api.File {
	g := roomy(f)
	if len(g.Entries) == 0 {
		return g
	}
	x := &g.Entries[r.Intn(len(g.Entries))]
	switch r.Intn(9) {
	case 0:
		x.Kind = r.Intn(5)
	case 1:
		x.Slot = []int{-1, 0, 1, 2, 3, 4, 15, 16}[r.Intn(8)]
	case 2:
		x.Offset = []int{-1, 0, 1, 31, 32}[r.Intn(5)]
	case 3:
		x.Data = append(x.Data, 0)
	case 4:
		x.Data = nil
	case 5:
		x.Define = append(x.Define, api.Def{})
	case 6:
		x.Define = nil
	case 7:
		i := r.Intn(len(g.Entries))
		g.Entries = append(g.Entries[:i], g.Entries[i+1:]...)
	default:
		spoilDef(r, x.Define)
	}
	return g
}

func spoilDef(r *rand.Rand, l []api.Def) {
	if len(l) == 0 {
		return
	}
	l[0].Global = []int{-1, 0, 65535, 65536}[r.Intn(4)]
	l[0].Fields = append(l[0].Fields, api.FieldDef{Number: []int{-1, 0, 1, 253, 255, 256}[r.Intn(6)], Size: r.Intn(6), Type: r.Intn(6) - 1})
}

func TestB2CheckFileRandom(t *testing.T) {
	r := rand.New(rand.NewSource(2))
	for range 20_000 {
		f := randomFile(r)
		want(t, textOf(f.Entries), told(record.CheckFile(f)), "0")
		for range 3 {
			f = spoilt(r, f)
			want(t, told(f), told(record.CheckFile(f)), told(checked(f)))
		}
	}
}

// TestB2FirstError asks all functions with files for the error of the file, whatever else is wrong.
func TestB2FirstError(t *testing.T) {
	wrong := file("data 0 -")
	for what, do := range map[string]func() []any{
		"Write":    func() []any { b, e := record.Write(wrong); return []any{b, e} },
		"Values":   func() []any { l, e := record.Values(wrong, 5); return []any{l, e} },
		"Set":      func() []any { f, e := record.Set(wrong, -1, api.Value{}); return []any{f.Entries, e} },
		"Times":    func() []any { l, e := record.Times(wrong); return []any{l, e} },
		"Find":     func() []any { l, e := record.Find(wrong, -1); return []any{l, e} },
		"Widen":    func() []any { f, e := record.Widen(wrong); return []any{f.Entries, e} },
		"Without":  func() []any { f, e := record.Without(wrong, []int{0}); return []any{f.Entries, e} },
		"Without2": func() []any { f, e := record.Without(wrong, []int{5}); return []any{f.Entries, e} },
	} {
		want(t, what, told(do()...), "[] 11")
	}
	a, e := record.Activity(wrong)
	want(t, "Activity", told(a, e), "{ 0 0 [] [] []} 11")
	s, e := record.Print(wrong)
	want(t, "Print", told(s, e), " 11")
}
