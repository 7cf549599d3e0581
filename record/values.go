package record

import (
	"bytes"
	"slices"
	"strings"

	"harrier/api"
)

// place returns where the byte i of a number stands, if i counts from the highest one on.
func place(i, many int, big bool) int {
	if big {
		return i
	}
	return many - 1 - i
}

// numberIn returns the number in bytes, without a sign.
func numberIn(b []byte, big bool) int {
	n := 0
	for i := range b {
		n = n<<8 + int(b[place(i, len(b), big)])
	}
	return n
}

// putNumber writes a number over bytes, by two's complement if it is below 0.
func putNumber(b []byte, n int, big bool) {
	for i := range b {
		b[place(i, len(b), big)] = byte(n >> (8 * (len(b) - 1 - i)))
	}
}

func appendNumber(b []byte, n, size int, big bool) []byte {
	b = append(b, make([]byte, size)...)
	putNumber(b[len(b)-size:], n, big)
	return b
}

// missing returns the number that a field of numbers has if it is missing: the one above all others.
func missing(d api.FieldDef) int {
	if d.Type == api.TypeSigned {
		return 1<<(8*d.Size-1) - 1
	}
	return 1<<(8*d.Size) - 1
}

// least returns the least number of a field of numbers.
func least(d api.FieldDef) int {
	if d.Type == api.TypeSigned {
		return -1 << (8*d.Size - 1)
	}
	return 0
}

// valueIn returns the value of a field in its bytes.
func valueIn(b []byte, d api.FieldDef, big bool) api.Value {
	v := api.Value{Number: d.Number, Type: d.Type}
	switch d.Type {
	case api.TypeText:
		text, _, _ := bytes.Cut(b, []byte{0})
		v.Text = string(text)
		v.Missing = v.Text == ""
	case api.TypeRaw:
		v.Text = string(b)
	default:
		n := numberIn(b, big)
		if n == missing(d) {
			v.Missing = true
			return v
		}
		if n > missing(d) {
			n -= 1 << (8 * d.Size)
		}
		v.Int = n
	}
	return v
}

// putValue writes a value, which is right for the field, over its bytes.
func putValue(b []byte, d api.FieldDef, big bool, v api.Value) {
	clear(b)
	switch {
	case !isNumber(d.Type):
		copy(b, v.Text)
	case v.Missing:
		putNumber(b, missing(d), big)
	default:
		putNumber(b, v.Int, big)
	}
}

// Values returns the values of the fields of the data number k.
func Values(f api.File, k int) ([]api.Value, api.Errno) {
	v, e := dataAt(f, k)
	if e != api.OK {
		return nil, e
	}
	var l []api.Value
	for at, d := range v.shape.fields(v.Kind) {
		l = append(l, valueIn(v.Data[at:at+d.Size], d, v.shape.def.Big))
	}
	return l, api.OK
}

// Set gives the field v.Number of the data number k another value.
func Set(f api.File, k int, v api.Value) (api.File, api.Errno) {
	old, e := dataAt(f, k)
	if e != api.OK {
		return api.File{}, e
	}
	at, d, ok := old.shape.find(old.Kind, v.Number)
	if !ok {
		return api.File{}, api.ErrNone
	}
	if e := checkValue(d, v); e != api.OK {
		return api.File{}, e
	}
	g := copyOf(f)
	putValue(g.Entries[k].Data[at:at+d.Size], d, old.shape.def.Big, v)
	if e := CheckFile(g); e != api.OK {
		return api.File{}, e
	}
	return g, api.OK
}

// checkValue returns why a field can't have this value.
func checkValue(d api.FieldDef, v api.Value) api.Errno {
	switch {
	case v.Type != d.Type:
		return api.ErrKind
	case v.Missing:
		return checkMissing(v)
	case isNumber(v.Type):
		return checkNumber(d, v)
	case v.Int != 0:
		return api.ErrForm
	case v.Type == api.TypeRaw:
		return checkRaw(d, v.Text)
	}
	return checkText(d, v.Text)
}

func checkMissing(v api.Value) api.Errno {
	if v.Int != 0 || v.Text != "" || v.Type == api.TypeRaw {
		return api.ErrForm
	}
	return api.OK
}

func checkNumber(d api.FieldDef, v api.Value) api.Errno {
	if v.Text != "" {
		return api.ErrForm
	}
	if !within(v.Int, least(d), missing(d)-1) {
		return api.ErrRange
	}
	return api.OK
}

func checkRaw(d api.FieldDef, s string) api.Errno {
	if len(s) != d.Size {
		return api.ErrForm
	}
	return api.OK
}

func checkText(d api.FieldDef, s string) api.Errno {
	if s == "" || strings.IndexByte(s, 0) >= 0 {
		return api.ErrForm
	}
	if len(s) > d.Size {
		return api.ErrSize
	}
	return api.OK
}

// copyOf returns a file with memory of its own.
func copyOf(f api.File) api.File {
	var g api.File
	for _, x := range f.Entries {
		g.Entries = append(g.Entries, copyOfEntry(x))
	}
	return g
}

func copyOfEntry(x api.Entry) api.Entry {
	x.Data = bytes.Clone(x.Data)
	x.Define = slices.Clone(x.Define)
	for i := range x.Define {
		x.Define[i].Fields = slices.Clone(x.Define[i].Fields)
	}
	return x
}
