package record_test

import (
	"strings"

	"harrier/api"
)

// What stands here says what files are once more, by the words of the document, and slowly.

// definition is the last one of a slot.
func definition(ahead []api.Entry, slot int) (api.Def, bool) {
	for i := len(ahead) - 1; i >= 0; i-- {
		if ahead[i].Kind == api.EntryDefine && ahead[i].Slot == slot {
			return ahead[i].Define[0], true
		}
	}
	return api.Def{}, false
}

// timeField tells where the time field begins.
func timeField(d api.Def) (at int, ok bool) {
	for _, x := range d.Fields {
		if x == (api.FieldDef{Number: 253, Size: 4, Type: api.TypeUnsigned}) {
			return at, true
		}
		at += x.Size
	}
	return 0, false
}

func sizeOf(d api.Def) int {
	size := 0
	for _, x := range d.Fields {
		size += x.Size
	}
	return size
}

// unsigned is the number of bytes.
func unsigned(b []byte, big bool) int {
	n, times := 0, 1
	for i := range b {
		if big {
			n = 256*n + int(b[i])
		} else {
			n += times * int(b[i])
			times *= 256
		}
	}
	return n
}

// timeAt is the time of an entry of a right file, or -1.
func timeAt(l []api.Entry, k int) int {
	x := l[k]
	if x.Kind == api.EntryDefine {
		return -1
	}
	if x.Kind == api.EntryShort {
		n := lastTime(l[:k])
		for n%32 != x.Offset {
			n++
		}
		return n
	}
	d, _ := definition(l[:k], x.Slot)
	at, ok := timeField(d)
	if !ok {
		return -1
	}
	n := unsigned(x.Data[at:at+4], d.Big)
	if n == 0xffffffff {
		return -1
	}
	return n
}

// lastTime is the time of the last entry that has one, or -1.
func lastTime(l []api.Entry) int {
	for k := len(l) - 1; k >= 0; k-- {
		if n := timeAt(l, k); n >= 0 {
			return n
		}
	}
	return -1
}

func times(f api.File) []int {
	var l []int
	for k := range f.Entries {
		l = append(l, timeAt(f.Entries, k))
	}
	return l
}

func outside(n, low, high int) bool { return n < low || n > high }

func checked(f api.File) api.Errno {
	if len(f.Entries) > 50_000 {
		return api.ErrSize
	}
	for k, x := range f.Entries {
		if e := checkedEntry(f.Entries[:k], x); e != api.OK {
			return e
		}
	}
	return api.OK
}

func checkedEntry(ahead []api.Entry, x api.Entry) api.Errno {
	data, short := x.Kind == api.EntryData, x.Kind == api.EntryShort
	switch {
	case x.Kind != api.EntryDefine && !data && !short:
		return api.ErrKind
	case outside(x.Slot, 0, 15), short && x.Slot > 3, outside(x.Offset, 0, 31), !short && x.Offset != 0:
		return api.ErrRange
	case (data || short) && len(x.Define) > 0, x.Kind == api.EntryDefine && (len(x.Define) != 1 || len(x.Data) > 0):
		return api.ErrForm
	case x.Kind == api.EntryDefine:
		return checkedDef(x.Define[0])
	}
	d, ok := definition(ahead, x.Slot)
	_, timed := timeField(d)
	size := sizeOf(d)
	if short {
		size -= 4
	}
	switch {
	case !ok, short && !timed, short && lastTime(ahead) < 0:
		return api.ErrState
	case len(x.Data) != size:
		return api.ErrForm
	}
	return api.OK
}

func checkedDef(d api.Def) api.Errno {
	if outside(d.Global, 0, 65535) {
		return api.ErrRange
	}
	if len(d.Fields) > 30 {
		return api.ErrSize
	}
	for i, x := range d.Fields {
		number := x.Type == api.TypeUnsigned || x.Type == api.TypeSigned
		switch {
		case outside(x.Number, 0, 255), outside(x.Size, 1, 255):
			return api.ErrRange
		case outside(x.Type, 0, 3):
			return api.ErrKind
		case number && x.Size != 1 && x.Size != 2 && x.Size != 4:
			return api.ErrForm
		}
		for _, y := range d.Fields[:i] {
			if x.Number == y.Number {
				return api.ErrTwice
			}
		}
	}
	return api.OK
}

// parsed reads the entry at the beginning of bytes; it is not ok if there is none. rest is behind it.
func parsed(ahead []api.Entry, b []byte) (x api.Entry, rest []byte, ok bool) {
	if len(b) == 0 {
		return x, nil, false
	}
	first, b := int(b[0]), b[1:]
	switch {
	case first < 16:
		x = api.Entry{Kind: api.EntryData, Slot: first}
	case first >= 64 && first < 80:
		return parsedDefine(first-64, b)
	case first >= 128:
		x = api.Entry{Kind: api.EntryShort, Slot: (first - 128) / 32, Offset: (first - 128) % 32}
	default:
		return x, nil, false
	}
	d, ok := definition(ahead, x.Slot)
	if !ok {
		return x, nil, false
	}
	size := sizeOf(d)
	if _, ok := timeField(d); x.Kind == api.EntryShort {
		size -= 4
		if !ok {
			return x, nil, false
		}
	}
	if len(b) < size {
		return x, nil, false
	}
	x.Data = b[:size]
	return x, b[size:], true
}

func parsedDefine(slot int, b []byte) (x api.Entry, rest []byte, ok bool) {
	if len(b) < 4 || b[0] > 1 || len(b) < 4+3*int(b[3]) {
		return x, nil, false
	}
	d := api.Def{Big: b[0] == 1, Global: unsigned(b[1:3], b[0] == 1)}
	rest = b[4:]
	for range b[3] {
		d.Fields = append(d.Fields, api.FieldDef{Number: int(rest[0]), Size: int(rest[1]), Type: int(rest[2])})
		rest = rest[3:]
	}
	return api.Entry{Kind: api.EntryDefine, Slot: slot, Define: []api.Def{d}}, rest, true
}

// framed puts bytes of entries into a file, by the head and the sum.
func framed(entries []byte) []byte {
	n := len(entries)
	b := append([]byte{'H', 'A', 'R', '1', byte(n >> 24), byte(n >> 16), byte(n >> 8), byte(n)}, entries...)
	sum := 1
	for _, c := range b {
		sum = (31*sum + int(c)) % (1 << 32)
	}
	return append(b, byte(sum>>24), byte(sum>>16), byte(sum>>8), byte(sum))
}

// written is the bytes of the entries of a right file.
func written(f api.File) []byte {
	var b []byte
	for _, x := range f.Entries {
		switch x.Kind {
		case api.EntryDefine:
			d := x.Define[0]
			b = append(b, byte(64+x.Slot))
			if d.Big {
				b = append(b, 1, byte(d.Global/256), byte(d.Global%256), byte(len(d.Fields)))
			} else {
				b = append(b, 0, byte(d.Global%256), byte(d.Global/256), byte(len(d.Fields)))
			}
			for _, y := range d.Fields {
				b = append(b, byte(y.Number), byte(y.Size), byte(y.Type))
			}
		case api.EntryData:
			b = append(append(b, byte(x.Slot)), x.Data...)
		default:
			b = append(append(b, byte(128+32*x.Slot+x.Offset)), x.Data...)
		}
	}
	return b
}

// valued is the value of a field in its bytes.
func valued(b []byte, d api.FieldDef, big bool) api.Value {
	v := api.Value{Number: d.Number, Type: d.Type}
	n, all := unsigned(b, big), 1<<(8*len(b))-1
	switch d.Type {
	case api.TypeUnsigned:
		v.Int, v.Missing = n, n == all
	case api.TypeSigned:
		v.Int, v.Missing = n, n == all/2
		if n > all/2 {
			v.Int = n - all - 1
		}
	case api.TypeText:
		v.Text = strings.Split(string(b), "\x00")[0]
		v.Missing = v.Text == ""
	default:
		v.Text = string(b)
	}
	if v.Missing {
		v.Int = 0
	}
	return v
}

// A piece is a field with its bytes.
type piece struct {
	field api.FieldDef
	bytes []byte
}

// pieces are those of the data number k of a right file; they share its memory.
func pieces(f api.File, k int) []piece {
	x := f.Entries[k]
	d, _ := definition(f.Entries[:k], x.Slot)
	time, _ := timeField(d)
	var l []piece
	at, left := 0, x.Data
	for _, y := range d.Fields {
		if x.Kind != api.EntryShort || at != time {
			l = append(l, piece{y, left[:y.Size]})
			left = left[y.Size:]
		}
		at += y.Size
	}
	return l
}

// values are those of the data number k of a right file.
func values(f api.File, k int) []api.Value {
	d, _ := definition(f.Entries[:k], f.Entries[k].Slot)
	var l []api.Value
	for _, x := range pieces(f, k) {
		l = append(l, valued(x.bytes, x.field, d.Big))
	}
	return l
}
