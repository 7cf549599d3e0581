package record_test

import (
	"encoding/hex"
	"fmt"
	"math/rand"
	"reflect"
	"strings"
	"testing"

	"harrier/api"
	"harrier/record"
)

// told writes results with spaces between; codes of errors as numbers.
func told(l ...any) string {
	for i, x := range l {
		if e, ok := x.(api.Errno); ok {
			l[i] = int(e)
		}
	}
	return strings.TrimSuffix(fmt.Sprintln(l...), "\n")
}

func want(t *testing.T, what, got, wanted string) {
	t.Helper()
	if got != wanted {
		t.Errorf("%s: got %q, want %q", what, got, wanted)
	}
}

// file makes a file of lines, which have the form of Print; the file need not be right.
func file(lines ...string) api.File {
	var f api.File
	for _, line := range lines {
		f.Entries = append(f.Entries, entry(line))
	}
	return f
}

func entry(line string) api.Entry {
	words := strings.Fields(line)
	last := words[len(words)-1]
	var x api.Entry
	var many int
	switch words[0] {
	case "define":
		x = api.Entry{Kind: api.EntryDefine, Define: []api.Def{{Big: words[3] == "big"}}}
		many, _ = fmt.Sscan(line[6:], &x.Slot, &x.Define[0].Global)
		for _, word := range words[4:] {
			var d api.FieldDef
			fmt.Sscanf(word, "%d:%d:%d", &d.Number, &d.Size, &d.Type)
			x.Define[0].Fields = append(x.Define[0].Fields, d)
		}
	case "data":
		x.Kind = api.EntryData
		many, _ = fmt.Sscan(line[4:], &x.Slot)
		many++
	case "short":
		x.Kind = api.EntryShort
		many, _ = fmt.Sscan(line[5:], &x.Slot, &x.Offset)
	}
	if many != 2 {
		panic("no entry: " + line)
	}
	if x.Kind != api.EntryDefine && last != "-" {
		data, err := hex.DecodeString(last)
		if err != nil {
			panic("no bytes: " + line)
		}
		x.Data = data
	}
	return x
}

// textOf writes entries, right or wrong, in the form of Print.
func textOf(l []api.Entry) string {
	var b strings.Builder
	for _, x := range l {
		bytes := fmt.Sprintf("%x", x.Data)
		if bytes == "" {
			bytes = "-"
		}
		switch x.Kind {
		case api.EntryDefine:
			order := map[bool]string{false: "little", true: "big"}[x.Define[0].Big]
			fmt.Fprintf(&b, "define %d %d %s", x.Slot, x.Define[0].Global, order)
			for _, d := range x.Define[0].Fields {
				fmt.Fprintf(&b, " %d:%d:%d", d.Number, d.Size, d.Type)
			}
			b.WriteByte('\n')
		case api.EntryData:
			fmt.Fprintf(&b, "data %d %s\n", x.Slot, bytes)
		default:
			fmt.Fprintf(&b, "short %d %d %s\n", x.Slot, x.Offset, bytes)
		}
	}
	return b.String()
}

// same asks for equal files; that is all fields, but nil and an empty list are the same.
func same(t *testing.T, what string, f, g api.File) {
	t.Helper()
	want(t, what, textOf(f.Entries), textOf(g.Entries))
	for _, x := range f.Entries {
		if len(x.Define) > 0 && len(x.Data) > 0 || x.Kind != api.EntryDefine && len(x.Define) > 0 || x.Kind != api.EntryShort && x.Offset != 0 {
			t.Errorf("%s: an entry has more than its kind has: %v", what, x)
		}
	}
}

// randomFile makes a right file with many short data, definitions that change, and missing times.
func randomFile(r *rand.Rand) api.File {
	var f api.File
	for range r.Intn(12) {
		x := randomEntry(r, f.Entries)
		g := api.File{Entries: append(f.Entries[:len(f.Entries):len(f.Entries)], x)}
		if checked(g) == api.OK {
			f = g
		}
	}
	return f
}

// randomEntry makes an entry that can be put behind others; it is often a right one.
func randomEntry(r *rand.Rand, ahead []api.Entry) api.Entry {
	slot := r.Intn(3)
	d, ok := definition(ahead, slot)
	if !ok || r.Intn(4) == 0 {
		return api.Entry{Kind: api.EntryDefine, Slot: slot, Define: []api.Def{randomDef(r)}}
	}
	x := api.Entry{Kind: api.EntryData, Slot: slot, Data: randomBytes(r, sizeOf(d))}
	if _, ok := timeField(d); ok && r.Intn(2) == 0 {
		x = api.Entry{Kind: api.EntryShort, Slot: slot, Offset: r.Intn(32), Data: x.Data[4:]}
	}
	return x
}

func randomDef(r *rand.Rand) api.Def {
	d := api.Def{Big: r.Intn(2) == 0, Global: []int{0, 19, 20, 30, 65535}[r.Intn(5)]}
	numbers := r.Perm(6)
	for _, n := range numbers[:r.Intn(5)] {
		x := api.FieldDef{Number: n, Type: r.Intn(4)}
		x.Size = []int{1, 2, 4}[r.Intn(3)]
		if x.Type >= api.TypeText {
			x.Size = 1 + r.Intn(5)
		}
		if n == 5 {
			x.Number = record.TimeField
		}
		if n == 4 {
			x = api.FieldDef{Number: record.TimeField, Size: 4}
		}
		d.Fields = append(d.Fields, x)
	}
	return d
}

// randomBytes are often such as stand for missing values.
func randomBytes(r *rand.Rand, many int) []byte {
	b := make([]byte, many)
	for i := range b {
		b[i] = []byte{0, 0, 1, 65, 127, 128, 255, 255, 255}[r.Intn(9)]
	}
	return b
}

// untouched does something with a file that has unused capacity everywhere, then writes over all that came of it, and asks whether the file is as it was.
func untouched(t *testing.T, what string, f api.File, do func(f api.File) []any) {
	t.Helper()
	given, other := roomy(f), roomy(f)
	for _, x := range do(given) {
		scribble(reflect.ValueOf(x))
	}
	if !reflect.DeepEqual(whole(given), whole(other)) {
		t.Errorf("%s: the argument is another one: %v", what, given)
	}
}

// roomy copies a file, and gives all of its slices unused capacity.
func roomy(f api.File) api.File {
	g := api.File{Entries: make([]api.Entry, len(f.Entries), len(f.Entries)+2)}
	for i, x := range f.Entries {
		x.Data = append(make([]byte, 0, len(x.Data)+3), x.Data...)
		x.Define = append(make([]api.Def, 0, len(x.Define)+1), x.Define...)
		for j, d := range x.Define {
			x.Define[j].Fields = append(make([]api.FieldDef, 0, len(d.Fields)+1), d.Fields...)
		}
		g.Entries[i] = x
	}
	return g
}

// whole has the slices of a file as long as their capacity is.
func whole(f api.File) api.File {
	g := api.File{Entries: append([]api.Entry(nil), f.Entries[:cap(f.Entries)]...)}
	for i, x := range g.Entries {
		g.Entries[i].Data = x.Data[:cap(x.Data)]
		g.Entries[i].Define = append([]api.Def(nil), x.Define[:cap(x.Define)]...)
		for j, d := range g.Entries[i].Define {
			g.Entries[i].Define[j].Fields = d.Fields[:cap(d.Fields)]
		}
	}
	return g
}

// scribble writes over all memory that a value has, also over its unused capacity.
func scribble(v reflect.Value) {
	switch v.Kind() {
	case reflect.Slice:
		for i := range v.Cap() {
			x := v.Slice3(0, v.Cap(), v.Cap()).Index(i)
			scribble(x)
			x.Set(reflect.Zero(x.Type()))
			if x.CanInt() {
				x.SetInt(77)
			} else if x.CanUint() {
				x.SetUint(77)
			}
		}
	case reflect.Struct:
		for i := range v.NumField() {
			scribble(v.Field(i))
		}
	}
}

func TestLimits(t *testing.T) {
	want(t, "limits", told(record.MaxBytes, record.MaxEntries, record.MaxFields, record.TimeField, record.MaxText), "4000000 50000 30 253 10000000")
}
