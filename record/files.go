package record

import (
	"bytes"

	"harrier/api"
)

const (
	mark      = "HAR1"
	headBytes = len(mark) + 4
	sumBytes  = 4

	// The first byte of an entry: the kind of it is told by where the byte lies.
	firstDefine = 64
	firstShort  = 128
)

// Sum returns the sum of bytes that stands at the end of a file.
func Sum(b []byte) int {
	sum := uint32(1)
	for _, c := range b {
		sum = 31*sum + uint32(c)
	}
	return int(sum)
}

// Write returns the bytes of a file.
func Write(f api.File) ([]byte, api.Errno) {
	if e := CheckFile(f); e != api.OK {
		return nil, e
	}
	b := make([]byte, headBytes)
	copy(b, mark)
	for _, x := range f.Entries {
		b = appendEntry(b, x)
		if len(b)+sumBytes > MaxBytes {
			return nil, api.ErrSize
		}
	}
	putNumber(b[len(mark):headBytes], len(b)-headBytes, true)
	return appendNumber(b, Sum(b), sumBytes, true), api.OK
}

func appendEntry(b []byte, x api.Entry) []byte {
	switch x.Kind {
	case api.EntryDefine:
		return appendDef(append(b, byte(firstDefine+x.Slot)), x.Define[0])
	case api.EntryShort:
		b = append(b, byte(firstShort+manyShorts*x.Slot+x.Offset))
	default:
		b = append(b, byte(x.Slot))
	}
	return append(b, x.Data...)
}

func appendDef(b []byte, d api.Def) []byte {
	order := byte(0)
	if d.Big {
		order = 1
	}
	b = appendNumber(append(b, order), d.Global, 2, d.Big)
	b = append(b, byte(len(d.Fields)))
	for _, x := range d.Fields {
		b = append(b, byte(x.Number), byte(x.Size), byte(x.Type))
	}
	return b
}

// A taker takes the next bytes, so many of them, if there are as many.
type taker func(many int) ([]byte, bool)

// reader returns a function that reads the next entry of b, behind the head of the file, and tells the number of the byte behind this entry. It is not to be called again when it found none.
func reader(b []byte) func() (x api.Entry, end int, ok bool) {
	var known slots
	at := headBytes
	take := func(many int) ([]byte, bool) {
		if many > len(b)-at {
			return nil, false
		}
		at += many
		return b[at-many : at], true
	}
	return func() (api.Entry, int, bool) {
		x, ok := known.read(take)
		if !ok {
			return api.Entry{}, 0, false
		}
		known.learn(x)
		return x, at, true
	}
}

func (s *slots) read(take taker) (x api.Entry, ok bool) {
	first, ok := take(1)
	if !ok {
		return x, false
	}
	x, ok = entryFor(int(first[0]))
	if !ok {
		return x, false
	}
	if x.Kind == api.EntryDefine {
		d, ok := readDef(take)
		x.Define = []api.Def{d}
		return x, ok
	}
	like := &s[x.Slot]
	if !like.holds(x.Kind) {
		return x, false
	}
	data, ok := take(like.length(x.Kind))
	x.Data = bytes.Clone(data)
	return x, ok
}

// entryFor returns what an entry with this first byte is.
func entryFor(first int) (api.Entry, bool) {
	switch {
	case first >= firstShort:
		first -= firstShort
		return api.Entry{Kind: api.EntryShort, Slot: first / manyShorts, Offset: first % manyShorts}, true
	case within(first, firstDefine, firstDefine+manySlots-1):
		return api.Entry{Kind: api.EntryDefine, Slot: first - firstDefine}, true
	}
	return api.Entry{Kind: api.EntryData, Slot: first}, first < manySlots
}

func readDef(take taker) (d api.Def, ok bool) {
	// The order, two bytes of Global, and the number of fields.
	head, ok := take(4)
	if !ok || head[0] > 1 {
		return d, false
	}
	fields, ok := take(3 * int(head[3]))
	if !ok {
		return d, false
	}
	d.Big = head[0] == 1
	d.Global = numberIn(head[1:3], d.Big)
	for i := 0; i < len(fields); i += 3 {
		d.Fields = append(d.Fields, api.FieldDef{Number: int(fields[i]), Size: int(fields[i+1]), Type: int(fields[i+2])})
	}
	return d, true
}

// Read returns the file that bytes tell, or the number of the byte where they are wrong.
func Read(b []byte) (api.File, int, api.Errno) {
	if e := checkFrame(b); e != api.OK {
		return api.File{}, 0, e
	}
	end := len(b) - sumBytes
	next := reader(b[:end])
	var f api.File
	for at := headBytes; at < end; {
		x, behind, ok := next()
		if !ok {
			return api.File{}, at, api.ErrSyntax
		}
		f.Entries = keep(f.Entries, x)
		at = behind
	}
	return finished(f)
}

// finished returns a file that was read to its end, if it is right.
func finished(f api.File) (api.File, int, api.Errno) {
	if e := CheckFile(f); e != api.OK {
		return api.File{}, 0, e
	}
	return f, 0, api.OK
}

// keep adds an entry, if there are not too many already: millions of them, which are refused at last, would take too much memory.
func keep(l []api.Entry, x api.Entry) []api.Entry {
	if len(l) > MaxEntries {
		return l
	}
	return append(l, x)
}

// checkFrame returns what is wrong with what is around the entries.
func checkFrame(b []byte) api.Errno {
	if len(b) > MaxBytes {
		return api.ErrSize
	}
	around := headBytes + sumBytes
	if len(b) < around || string(b[:len(mark)]) != mark || numberIn(b[len(mark):headBytes], true) != len(b)-around {
		return api.ErrSyntax
	}
	end := len(b) - sumBytes
	if numberIn(b[end:], true) != Sum(b[:end]) {
		return api.ErrArg
	}
	return api.OK
}

// Salvage returns the entries at the beginning of b that can be read, and how many bytes these are, with the head.
func Salvage(b []byte) (api.File, int) {
	var f api.File
	if len(b) < headBytes {
		return f, 0
	}
	next := reader(b)
	p := newPassage()
	at := headBytes
	for len(f.Entries) < MaxEntries {
		x, end, ok := next()
		if !ok || p.check(x) != api.OK {
			break
		}
		p.pass(x)
		f.Entries = append(f.Entries, x)
		at = end
	}
	return f, at
}
