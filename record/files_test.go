package record_test

import (
	"bytes"
	"fmt"
	"math/rand"
	"slices"
	"strings"
	"testing"

	"harrier/api"
	"harrier/record"
)

func TestB3Sum(t *testing.T) {
	for s, n := range map[string]int{"": 1, "\x00": 31, "\x01\x02": 994, "\xff": 286, "HAR1": 31*31*31*31 + 72*31*31*31 + 65*31*31 + 82*31 + 49} {
		want(t, fmt.Sprintf("Sum of %q", s), told(record.Sum([]byte(s))), told(n))
	}
	sum := 1
	b := make([]byte, 1000)
	for i := range b {
		b[i] = byte(255 - i)
		sum = (31*sum + int(b[i])) % (1 << 32)
		want(t, "a long sum", told(record.Sum(b[:i+1])), told(sum))
	}
}

func TestB3Write(t *testing.T) {
	f := file("define 2 258 little 253:4:0 7:3:2", "define 15 258 big", "data 15 -", "data 2 01020304414243", "short 2 31 000000", "define 15 1 big 1:2:1", "data 15 ff00")
	entries := "\x42\x00\x02\x01\x02\xfd\x04\x00\x07\x03\x02" + "\x4f\x01\x01\x02\x00" + "\x0f" + "\x02\x01\x02\x03\x04ABC" + "\xdf\x00\x00\x00" + "\x4f\x01\x00\x01\x01\x01\x02\x01" + "\x0f\xff\x00"
	b, e := record.Write(f)
	want(t, "Write", told(b, e), told(framed([]byte(entries)), 0))
	b, e = record.Write(api.File{})
	want(t, "Write of nothing", fmt.Sprintf("%q %d", b, e), fmt.Sprintf("%q 0", "HAR1\x00\x00\x00\x00"+string(framed(nil)[8:])))
	g, at, e := record.Read(framed([]byte(entries)))
	want(t, "Read", told(at, e), "0 0")
	same(t, "Read", g, f)
}

// longFile has just the most bytes, and more of them.
func longFile(more int) api.File {
	var f api.File
	full := define(api.Def{Fields: fields(16, 250, 3)})
	f.Entries = append(f.Entries, full)
	for range 999 {
		f.Entries = append(f.Entries, api.Entry{Kind: api.EntryData, Data: make([]byte, 4000)})
	}
	rest := fields(12, 255, 3)
	rest[0].Size = 89 + more
	f.Entries = append(f.Entries, define(api.Def{Fields: rest}), api.Entry{Kind: api.EntryData, Data: make([]byte, 11*255+89+more)})
	return f
}

func TestB3MostBytes(t *testing.T) {
	f := longFile(0)
	b, e := record.Write(f)
	want(t, "Write", told(len(b), e), "4000000 0")
	g, at, e := record.Read(b)
	want(t, "Read", told(at, e), "0 0")
	same(t, "Read", g, f)
	f = longFile(1)
	b, e = record.Write(f)
	want(t, "Write of more", told(len(b), e), "0 3")
	b = framed(written(f))
	g, at, e = record.Read(b)
	want(t, "Read of more", told(len(b), len(g.Entries), at, e), "4000001 0 0 3")
	g, at = record.Salvage(b)
	want(t, "Salvage of more", told(at), "3999997")
	same(t, "Salvage of more", g, f)
	want(t, "Read of more that is wrong", told(readError(make([]byte, record.MaxBytes+1))), "0 3")
}

func readError(b []byte) (int, api.Errno) {
	_, at, e := record.Read(b)
	return at, e
}

func TestB3ReadFrame(t *testing.T) {
	for n := range 12 {
		at, e := readError(framed(nil)[:n])
		want(t, told(n, "bytes"), told(at, e), "0 6")
	}
	good := framed(written(file(timed, "data 0 0000000000", "short 0 1 ff")))
	at, e := readError(good)
	want(t, "a good file", told(at, e), "0 0")
	for i := range good {
		b := bytes.Clone(good)
		b[i]++
		wanted := "0 1"
		if i < 8 {
			wanted = "0 6"
		}
		at, e = readError(b)
		want(t, told("byte", i), told(at, e), wanted)
	}
	at, e = readError(good[:len(good)-1])
	want(t, "a byte less", told(at, e), "0 6")
	at, e = readError(append(bytes.Clone(good), 0))
	want(t, "a byte more", told(at, e), "0 6")
	b := framed([]byte{16})
	b[len(b)-1]++
	at, e = readError(b)
	want(t, "the sum ahead of entries", told(at, e), "0 1")
}

func TestB3FirstBytes(t *testing.T) {
	head := string(written(file("define 0 0 little 253:4:0", "data 0 00000000", "define 1 0 little 253:4:0", "define 2 0 little 253:4:0", "define 3 0 little 253:4:0", "define 15 0 little")))
	for c := range 256 {
		tail := map[bool]string{true: "\x00\x00\x00\x00", false: ""}[c < 4]
		if c >= 64 && c < 80 {
			tail = "\x00\x00\x00\x00"
		}
		_, at, e := record.Read(framed([]byte(head + string([]byte{byte(c)}) + tail)))
		wanted := "0 0"
		if c > 3 && c < 15 || c > 15 && c < 64 || c >= 80 && c < 128 {
			wanted = told(8+len(head), 6)
		}
		want(t, told("first byte", c), told(at, e), wanted)
	}
}

// read is Read and Salvage of the bytes of entries, by the words of the document.
func read(b []byte) (f api.File, at int, e api.Errno, saved api.File, many int) {
	rest, many := b, 8
	whole := true
	for len(rest) > 0 {
		x, behind, ok := parsed(f.Entries, rest)
		if !ok {
			return api.File{}, 8 + len(b) - len(rest), api.ErrSyntax, saved, many
		}
		f.Entries = append(f.Entries, x)
		rest = behind
		if whole = whole && checked(f) == api.OK; whole {
			saved.Entries = slices.Clone(f.Entries)
			many = 8 + len(b) - len(rest)
		}
	}
	if e = checked(f); e != api.OK {
		return api.File{}, 0, e, saved, many
	}
	return f, 0, api.OK, saved, many
}

func readBoth(t *testing.T, b []byte) {
	t.Helper()
	what := fmt.Sprintf("% x", b)
	f, at, e, saved, many := read(b)
	g, gotAt, gotE := record.Read(framed(b))
	want(t, what, told(gotAt, gotE), told(at, e))
	same(t, what, g, f)
	g, got := record.Salvage(append([]byte("whatever"), b...))
	want(t, what, told(got), told(many))
	same(t, what, g, saved)
}

// TestB3AllShort reads all bytes of a few kinds that are a few, behind some beginnings.
func TestB3AllShort(t *testing.T) {
	kinds := []byte{0, 1, 2, 4, 64, 65, 128, 159, 253, 255}
	var walk func(b []byte, depth int)
	walk = func(b []byte, depth int) {
		readBoth(t, b)
		for _, c := range kinds {
			if depth > 0 {
				walk(append(b[:len(b):len(b)], c), depth-1)
			}
		}
	}
	for _, lines := range []string{"", "define 0 1 big", "define 0 1 little 1:1:0", "define 0 0 little 253:4:0;data 0 00000000;define 1 0 big 253:4:0 1:1:3"} {
		var b []byte
		if lines != "" {
			b = written(file(strings.Split(lines, ";")...))
		}
		walk(b, 4)
	}
	for _, head := range []string{"\x40\x00\x00\x00\x01\xfd\x04", "\x40\x01\x00\x00\x02\xfd\x02\x00\xfd\x04\x00", "\x40\x00\x00\x00\x02\xfd\x04\x00\xfd\x04\x00\x80", "\x40\x00\x00\x00\x01\xfd\x04\x00\x00\xff\xff\xff", "\x40\x00\x00\x00\x02\x01\x01\x04\x01\x00\x00"} {
		walk([]byte(head), 4)
	}
}

func TestB3Random(t *testing.T) {
	r := rand.New(rand.NewSource(3))
	for range 10_000 {
		f := randomFile(r)
		b, e := record.Write(f)
		want(t, textOf(f.Entries), told(b, e), told(framed(written(f)), 0))
		g, at, e := record.Read(b)
		want(t, textOf(f.Entries), told(at, e), "0 0")
		same(t, "Read of Write", g, f)
		entries := written(f)
		for range min(len(entries), 4) {
			entries[r.Intn(len(entries))] = []byte{0, 1, 2, 3, 4, 64, 66, 128, 255, 253, byte(r.Intn(256))}[r.Intn(11)]
			readBoth(t, entries)
		}
		readBoth(t, entries[:r.Intn(len(entries)+1)])
	}
}

func TestB3ManyEntries(t *testing.T) {
	head := written(file("define 0 0 big"))
	entries := append(head, make([]byte, record.MaxEntries-1)...)
	f, at, e := record.Read(framed(entries))
	want(t, "Read of the most", told(len(f.Entries), at, e), "50000 0 0")
	g, at := record.Salvage(framed(entries))
	want(t, "Salvage of the most", told(len(g.Entries), at), told(50000, 8+len(entries)))
	entries = append(entries, 0)
	f, at, e = record.Read(framed(entries))
	want(t, "Read of more", told(len(f.Entries), at, e), "0 0 3")
	g, at = record.Salvage(framed(entries))
	want(t, "Salvage of more", told(len(g.Entries), at), told(50000, 8+len(entries)-1))
	entries = append(entries, 0, 16, 17)
	f, at, e = record.Read(framed(entries))
	want(t, "Read of more, and a wrong one", told(len(f.Entries), at, e), told(0, 8+len(entries)-2, 6))
}

func TestB3Salvage(t *testing.T) {
	good := framed(written(file(timed, "data 0 0000000000", "short 0 1 ff")))
	for n := range len(good) {
		f, at := record.Salvage(good[:n])
		_, _, _, saved, many := read(good[min(n, 8):n])
		if n < 8 {
			many = 0
		}
		want(t, told(n, "bytes"), told(at), told(many))
		same(t, told(n, "bytes"), f, saved)
	}
	for _, c := range []struct {
		what, bytes string
		lines, at   int
	}{
		{"the sum is an entry", "xxxxxxxx\x40\x00\x00\x00\x00\x00\x00\x00\x00", 5, 17},
		{"a definition that is wrong", "HAR1\x00\x00\x00\x00\x40\x00\x00\x00\x00\x00\x40\x00\x00\x00\x01\x01\x03\x00\x00", 2, 14},
		{"short data without a time", "HAR1\x00\x00\x00\x00\x40\x00\x00\x00\x01\xfd\x04\x00\x80", 1, 16},
		{"nothing", "", 0, 0}, {"8 bytes", "12345678", 0, 8}, {"7 bytes", "1234567", 0, 0},
	} {
		f, at := record.Salvage([]byte(c.bytes))
		want(t, c.what, told(len(f.Entries), at), told(c.lines, c.at))
	}
}

// TestB3OwnMemory writes over bytes that were read, and over files that were written.
func TestB3OwnMemory(t *testing.T) {
	f := file(timed, "data 0 0000000000", "short 0 1 ff")
	untouched(t, "Write", f, func(f api.File) []any { b, _ := record.Write(f); return []any{b} })
	b := framed(written(f))
	for _, do := range []func(b []byte) api.File{
		func(b []byte) api.File { f, _, _ := record.Read(b); return f },
		func(b []byte) api.File { f, _ := record.Salvage(b); return f },
	} {
		given := append(make([]byte, 0, len(b)+5), b...)
		g := do(given)
		clear(given)
		same(t, "what was read", g, f)
		copy(given, b)
		for _, x := range do(given).Entries {
			clear(x.Data[:cap(x.Data)])
		}
		want(t, "the bytes", told(given[:cap(given)]), told(append(bytes.Clone(b), 0, 0, 0, 0, 0)))
	}
}
