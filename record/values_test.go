package record_test

import (
	"bytes"
	"fmt"
	"math"
	"math/rand"
	"strings"
	"testing"

	"harrier/api"
	"harrier/record"
)

// oneField is a file with one field, and what it has.
func oneField(size, kind int, big bool, bytes string) api.File {
	return api.File{Entries: []api.Entry{define(api.Def{Big: big, Fields: []api.FieldDef{field(7, size, kind)}}), {Kind: api.EntryData, Data: []byte(bytes)}}}
}

func TestB5Values(t *testing.T) {
	for _, c := range []struct {
		size, kind int
		big        bool
		bytes      string
		want       api.Value
	}{
		{1, 0, false, "\x00", api.Value{}}, {1, 0, false, "\xfe", api.Value{Int: 254}}, {1, 0, true, "\xff", api.Value{Missing: true}}, {2, 0, false, "\xff\xfe", api.Value{Int: 65279}}, {2, 0, true, "\xff\xfe", api.Value{Int: 65534}}, {2, 0, true, "\xff\xff", api.Value{Missing: true}}, {2, 0, true, "\x7f\xff", api.Value{Int: 32767}},
		{4, 0, true, "\xff\xff\xff\xff", api.Value{Missing: true}}, {4, 0, true, "\xff\xff\xff\xfe", api.Value{Int: 4294967294}}, {4, 0, false, "\x04\x03\x02\x01", api.Value{Int: 16909060}}, {4, 0, true, "\x04\x03\x02\x01", api.Value{Int: 67305985}},
		{1, 1, false, "\x7f", api.Value{Missing: true}}, {1, 1, false, "\x7e", api.Value{Int: 126}}, {1, 1, false, "\x80", api.Value{Int: -128}}, {1, 1, false, "\xff", api.Value{Int: -1}}, {2, 1, true, "\x7f\xff", api.Value{Missing: true}}, {2, 1, false, "\xff\x7f", api.Value{Missing: true}}, {2, 1, false, "\x7f\xff", api.Value{Int: -129}}, {2, 1, true, "\x80\x00", api.Value{Int: -32768}},
		{4, 1, true, "\x7f\xff\xff\xff", api.Value{Missing: true}}, {4, 1, true, "\x80\x00\x00\x00", api.Value{Int: -2147483648}}, {4, 1, false, "\xfe\xff\xff\xff", api.Value{Int: -2}}, {4, 1, false, "\xfe\xff\xff\x7f", api.Value{Int: 2147483646}},
		{3, 2, false, "abc", api.Value{Text: "abc"}}, {3, 2, true, "ab\x00", api.Value{Text: "ab"}}, {3, 2, false, "a\x00c", api.Value{Text: "a"}}, {3, 2, false, "\x00bc", api.Value{Missing: true}}, {3, 2, false, "\x00\x00\x00", api.Value{Missing: true}}, {1, 2, false, "\xff", api.Value{Text: "\xff"}},
		{3, 3, false, "a\x00c", api.Value{Text: "a\x00c"}}, {3, 3, true, "\x00\x00\x00", api.Value{Text: "\x00\x00\x00"}}, {2, 3, true, "\xff\xff", api.Value{Text: "\xff\xff"}}, {4, 3, false, "\xff\xff\xff\x7f", api.Value{Text: "\xff\xff\xff\x7f"}},
	} {
		c.want.Number, c.want.Type = 7, c.kind
		l, e := record.Values(oneField(c.size, c.kind, c.big, c.bytes), 1)
		want(t, fmt.Sprintf("size %d type %d big %v %q", c.size, c.kind, c.big, c.bytes), told(l, e), told([]api.Value{c.want}, 0))
	}
}

func TestB5ValuesOfEntries(t *testing.T) {
	f := file("define 0 1 big 9:1:1 253:4:0 8:2:2", "define 1 1 little", "data 0 80000000014142", "short 0 2 014300", "data 1 -", "define 0 1 big 253:2:0", "data 0 0102")
	for k, wanted := range map[int]string{
		-1: "[] 4", 0: "[] 7", 1: "[] 7", 5: "[] 7", 7: "[] 4", math.MaxInt: "[] 4", math.MinInt: "[] 4",
		2: "[{9 1 -128  false} {253 0 1  false} {8 2 0 AB false}] 0", 3: "[{9 1 1  false} {8 2 0 C false}] 0", 4: "[] 0", 6: "[{253 0 258  false}] 0",
	} {
		l, e := record.Values(f, k)
		want(t, told("Values of", k), told(l, e), wanted)
	}
	l, e := record.Values(api.File{}, 0)
	want(t, "Values of nothing", told(l, e), "[] 4")
	untouched(t, "Values", f, func(f api.File) []any { l, _ := record.Values(f, 2); return []any{l} })
}

func TestB5SetNumbers(t *testing.T) {
	for size, all := range map[int]int{1: 1 << 8, 2: 1 << 16, 4: 1 << 32} {
		for kind, limits := range [][2]int{{0, all - 2}, {-all / 2, all/2 - 2}} {
			for _, n := range []int{limits[0], limits[0] + 1, -1, 0, 1, 100, limits[1] - 1, limits[1], limits[0] - 1, limits[1] + 1, limits[1] + 2, all, math.MinInt, math.MaxInt} {
				for _, big := range []bool{false, true} {
					f := oneField(size, kind, big, strings.Repeat("\x55", size))
					v := api.Value{Number: 7, Type: kind, Int: n}
					g, e := record.Set(f, 1, v)
					if n < limits[0] || n > limits[1] {
						want(t, told("Set", size, v), told(len(g.Entries), e), "0 9")
						continue
					}
					want(t, told("Set", size, v), told(len(g.Entries), e), "2 0")
					want(t, told("Set", size, v), told(values(g, 1)), told([]api.Value{v}))
				}
			}
		}
	}
}

// TestB5SetBytes tells which bytes come of values.
func TestB5SetBytes(t *testing.T) {
	for _, c := range []struct {
		size, kind int
		big        bool
		v          api.Value
		want       string
	}{
		{2, 0, true, api.Value{Int: 258}, "\x01\x02"}, {2, 0, false, api.Value{Int: 258}, "\x02\x01"}, {4, 1, true, api.Value{Int: -2}, "\xff\xff\xff\xfe"}, {4, 1, false, api.Value{Int: -2}, "\xfe\xff\xff\xff"},
		{1, 0, false, api.Value{Missing: true}, "\xff"}, {2, 0, true, api.Value{Missing: true}, "\xff\xff"}, {4, 0, true, api.Value{Missing: true}, "\xff\xff\xff\xff"}, {1, 1, false, api.Value{Missing: true}, "\x7f"}, {2, 1, true, api.Value{Missing: true}, "\x7f\xff"}, {2, 1, false, api.Value{Missing: true}, "\xff\x7f"}, {4, 1, false, api.Value{Missing: true}, "\xff\xff\xff\x7f"},
		{4, 2, false, api.Value{Text: "a"}, "a\x00\x00\x00"}, {4, 2, true, api.Value{Text: "abcd"}, "abcd"}, {4, 2, true, api.Value{Missing: true}, "\x00\x00\x00\x00"}, {4, 2, true, api.Value{Text: "\xff\x01"}, "\xff\x01\x00\x00"},
		{4, 3, true, api.Value{Text: "a\x00\x00b"}, "a\x00\x00b"}, {4, 3, false, api.Value{Text: "\x00\x00\x00\x00"}, "\x00\x00\x00\x00"},
	} {
		c.v.Number, c.v.Type = 7, c.kind
		f := oneField(c.size, c.kind, c.big, strings.Repeat("x", c.size))
		g, e := record.Set(f, 1, c.v)
		want(t, told("Set", c.size, c.v), told(e), "0")
		same(t, told("Set", c.size, c.v), g, oneField(c.size, c.kind, c.big, c.want))
	}
}

func TestB5SetErrors(t *testing.T) {
	f := file("define 0 1 big 253:4:0 1:1:0 2:2:1 3:3:2 4:3:3", "data 0 0000000101000241424344454a", "short 0 2 01000241424344454a", "define 1 1 big 253:2:0", "data 1 0001")
	text, raw := api.TypeText, api.TypeRaw
	for _, c := range []struct {
		k    int
		v    api.Value
		want api.Errno
	}{
		{5, api.Value{Number: 1}, api.ErrNone}, {-1, api.Value{Number: 1}, api.ErrNone}, {0, api.Value{Number: 9}, api.ErrKind}, {3, api.Value{Number: 253}, api.ErrKind},
		{1, api.Value{Number: 9, Type: 9}, api.ErrNone}, {1, api.Value{Number: -1}, api.ErrNone}, {2, api.Value{Number: 253, Type: 9}, api.ErrNone}, {1, api.Value{Number: 253}, api.OK}, {4, api.Value{Number: 253, Int: 5}, api.OK}, {2, api.Value{Number: 4, Type: raw, Text: "abc"}, api.OK},
		{1, api.Value{Number: 1, Type: 1}, api.ErrKind}, {1, api.Value{Number: 2, Text: "x", Missing: true}, api.ErrKind}, {1, api.Value{Number: 3, Type: raw, Text: "abc"}, api.ErrKind}, {1, api.Value{Number: 4, Type: text, Text: "abc"}, api.ErrKind}, {1, api.Value{Number: 1, Type: -1}, api.ErrKind}, {1, api.Value{Number: 1, Type: 4}, api.ErrKind},
		{1, api.Value{Number: 1, Missing: true, Int: 1}, api.ErrForm}, {1, api.Value{Number: 1, Missing: true, Int: 255}, api.ErrForm}, {1, api.Value{Number: 1, Missing: true, Text: "x"}, api.ErrForm}, {1, api.Value{Number: 3, Type: text, Missing: true, Text: "x"}, api.ErrForm}, {1, api.Value{Number: 3, Type: text, Missing: true, Int: 1}, api.ErrForm}, {1, api.Value{Number: 4, Type: raw, Missing: true}, api.ErrForm}, {1, api.Value{Number: 4, Type: raw, Missing: true, Text: "abc"}, api.ErrForm}, {1, api.Value{Number: 2, Type: 1, Missing: true}, api.OK}, {1, api.Value{Number: 3, Type: text, Missing: true}, api.OK},
		{1, api.Value{Number: 1, Text: "x"}, api.ErrForm}, {1, api.Value{Number: 1, Text: "x", Int: 999}, api.ErrForm}, {1, api.Value{Number: 2, Type: 1, Text: "x"}, api.ErrForm}, {1, api.Value{Number: 1, Int: 255}, api.ErrRange}, {1, api.Value{Number: 2, Type: 1, Int: 32767}, api.ErrRange},
		{1, api.Value{Number: 3, Type: text}, api.ErrForm}, {1, api.Value{Number: 3, Type: text, Text: "x", Int: 1}, api.ErrForm}, {1, api.Value{Number: 3, Type: text, Text: "\x00"}, api.ErrForm}, {1, api.Value{Number: 3, Type: text, Text: "x\x00"}, api.ErrForm}, {1, api.Value{Number: 3, Type: text, Text: "abcd\x00"}, api.ErrForm}, {1, api.Value{Number: 3, Type: text, Text: "abcd", Int: 1}, api.ErrForm}, {1, api.Value{Number: 3, Type: text, Text: "abcd"}, api.ErrSize}, {1, api.Value{Number: 3, Type: text, Text: "abc"}, api.OK},
		{1, api.Value{Number: 4, Type: raw, Text: "ab"}, api.ErrForm}, {1, api.Value{Number: 4, Type: raw, Text: "abcd"}, api.ErrForm}, {1, api.Value{Number: 4, Type: raw}, api.ErrForm}, {1, api.Value{Number: 4, Type: raw, Text: "abc", Int: 1}, api.ErrForm},
		{1, api.Value{Number: 253, Missing: true}, api.ErrState}, {4, api.Value{Number: 253, Missing: true}, api.OK},
	} {
		g, e := record.Set(f, c.k, c.v)
		want(t, told("Set", c.k, c.v), told(len(g.Entries), e), told(map[bool]int{true: 5}[c.want == api.OK], c.want))
	}
	untouched(t, "Set", f, func(f api.File) []any {
		g, _ := record.Set(f, 1, api.Value{Number: 3, Type: text, Text: "new"})
		return []any{g}
	})
}

// TestB5SetRandom gives fields other values: all other bytes stay.
func TestB5SetRandom(t *testing.T) {
	r := rand.New(rand.NewSource(5))
	for range 20_000 {
		f := randomFile(r)
		for k, x := range f.Entries {
			if x.Kind == api.EntryDefine || r.Intn(2) == 0 {
				continue
			}
			d, _ := definition(f.Entries[:k], x.Slot)
			wanted := roomy(f)
			l := pieces(wanted, k)
			if len(l) == 0 {
				continue
			}
			y := l[r.Intn(len(l))]
			copy(y.bytes, randomBytes(r, len(y.bytes)))
			if at := bytes.IndexByte(y.bytes, 0); at >= 0 && y.field.Type == api.TypeText {
				clear(y.bytes[at:])
			}
			setTo(t, f, k, valued(y.bytes, y.field, d.Big), wanted)
		}
	}
}

// setTo asks whether Set makes this file, or why it is none.
func setTo(t *testing.T, f api.File, k int, v api.Value, wanted api.File) {
	t.Helper()
	what := told(textOf(f.Entries), "Set", k, v)
	g, e := record.Set(f, k, v)
	want(t, what, told(e), told(checked(wanted)))
	if e != api.OK {
		wanted = api.File{}
	}
	same(t, what, g, wanted)
}

func TestB5ValuesRandom(t *testing.T) {
	r := rand.New(rand.NewSource(55))
	for range 20_000 {
		f := randomFile(r)
		for k, x := range f.Entries {
			if x.Kind != api.EntryDefine {
				l, e := record.Values(f, k)
				want(t, textOf(f.Entries), told(l, e), told(values(f, k), 0))
			}
		}
	}
}
