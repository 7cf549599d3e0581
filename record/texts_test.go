package record_test

import (
	"fmt"
	"math/rand"
	"regexp"
	"strings"
	"testing"

	"harrier/api"
	"harrier/record"
)

func TestB8Print(t *testing.T) {
	for _, c := range []string{
		"",
		"define 0 0 big 253:4:0 1:60:2 2:1:0\n",
		"define 15 65535 little\ndata 15 -\n",
		"define 3 12 little 255:255:3 253:4:0\n",
		"define 1 7 big 253:4:0\ndefine 2 8 little 7:6:3\ndata 1 00000000\nshort 1 31 -\ndata 2 0123456789ab\ndata 2 cdef00ff8070\n",
		"define 1 7 big 253:4:0 9:1:1\ndata 1 ffffffff0a\ndata 1 0000000005\nshort 1 0 a0\n",
	} {
		var f api.File
		if c != "" {
			f = file(strings.Split(strings.TrimSuffix(c, "\n"), "\n")...)
		}
		s, e := record.Print(f)
		want(t, "Print", told(s, e), told(c, 0))
		g, line, e := record.Parse(c)
		want(t, told("Parse", c), told(line, e), "0 0")
		same(t, "Parse", g, f)
	}
}

func TestB8Random(t *testing.T) {
	r := rand.New(rand.NewSource(8))
	for range 20_000 {
		f := randomFile(r)
		s, e := record.Print(f)
		want(t, "Print", told(s, e), told(textOf(f.Entries), 0))
		g, line, e := record.Parse(s)
		want(t, told("Parse", s), told(line, e), "0 0")
		same(t, "Parse", g, f)
		if len(s) == 0 {
			continue
		}
		b := []byte(s)
		for range 3 {
			b[r.Intn(len(b))] = "0019af:- \n_xdAF/@`g\x00"[r.Intn(20)]
			parse(t, string(b))
		}
		parse(t, string(b[:r.Intn(len(b))]))
	}
}

var lineForm = regexp.MustCompile(strings.NewReplacer("N", `(?:0|[1-9][0-9]{0,8})`, "H", `(?:-|(?:[0-9a-f]{2})+)`).Replace(
	`^(?:define N N (?:little|big)(?: N:N:N)*|data N H|short N N H)$`))

// parse asks Parse for what the form of lines, and what is right for a file, say.
func parse(t *testing.T, s string) {
	t.Helper()
	f, line, e := record.Parse(s)
	lines := strings.Split(s, "\n")
	last := len(lines) - 1
	for i, x := range lines {
		if i == last && x == "" {
			break
		}
		if i == last || !lineForm.MatchString(x) {
			want(t, fmt.Sprintf("%q", s), told(len(f.Entries), line, e), told(0, i, 6))
			return
		}
	}
	var wanted api.File
	if last > 0 {
		wanted = file(lines[:last]...)
	}
	want(t, fmt.Sprintf("%q", s), told(line, e), told(0, checked(wanted)))
	if e != api.OK {
		wanted = api.File{}
	}
	same(t, s, f, wanted)
}

func TestB8Parse(t *testing.T) {
	for _, s := range []string{
		"\n", "\n\n", "define 0 0 big\n\n", "x\n", " define 0 0 big\n", "define 0 0 big \n", "define 0 0  big\n", "define 0 0\n", "define 0\n", "define\n", "define 0 0 big", "define 0 0 big\r\n", "Define 0 0 big\n", "define 0 0 Big\n", "define 0 0 \n", "define 0 0 little\n", "define 0 0 middle\n", "define 0 0 1:1:0\n",
		"define 00 0 big\n", "define 0 01 big\n", "define -1 0 big\n", "define +1 0 big\n", "define 123456789 0 big\n", "define 1234567890 0 big\n", "define 0 123456789 big\n", "define 0 999999999999999999999 big\n", "define 0x1 0 big\n", "define 1_0 0 big\n", "define 0 65536 big\n", "define 16 0 big\n",
		"define 0 0 big 1:1\n", "define 0 0 big 1:1:0:0\n", "define 0 0 big 1::0\n", "define 0 0 big :1:0\n", "define 0 0 big 1:1:\n", "define 0 0 big 1:1:0 \n", "define 0 0 big 01:1:0\n", "define 0 0 big 1:1:4\n", "define 0 0 big 1:3:0\n", "define 0 0 big 1:1:0 1:1:0\n", "define 0 0 big 256:1:0\n", "define 0 0 big 1:1:0,2:1:0\n", "define 0 0 big 1:1234567890:0\n", "define 0 0 big 1:0:2\n", "define 0 0 big 1:1:1234567890\n",
		"data 0 -\n", "data 0\n", "data\n", "data 0 \n", "data 0 - \n", "data 0 - -\n", "data - -\n", "data 0 0\n", "data 0 --\n", "data 0 -00\n", "data 0 000\n", "data 0 0G\n", "data 0 FF\n", "data 0 fg\n", "data 0 gf\n", "data 0 00 00\n", "data  0 -\n", "data 0  -\n", "data0 -\n", "data 0 ff\n",
		"short 1 40 -\n", "short 0 -\n", "short 0 0\n", "short 0 0 \n", "short 0 00 -\n", "short 0 0 - -\n", "short 0 1234567890 -\n", "short 0 0 -\n", "short\n", "short 0 0 zz\n",
		"define 0 0 big\ndata 0 00\ndata 0 0\n", "define 0 0 big\ndata 0 0\ndata 0 -", "define 0 0 big\ndata 0 -", "define 0 0 big\ndata 0 00\n", "\x00\n", "\xff", "data 0 \xff\xff\n",
	} {
		parse(t, s)
	}
}

// TestB8AllShort parses lines that are wrong in one place or two.
func TestB8AllShort(t *testing.T) {
	alphabet := "019a:- \nbxF"
	var walk func(s string, depth int)
	walk = func(s string, depth int) {
		parse(t, s)
		parse(t, s+"\n")
		for i := range len(alphabet) {
			if depth > 0 {
				walk(s+alphabet[i:i+1], depth-1)
			}
		}
	}
	for _, s := range []string{"", "define ", "define 0 0 big", "define 0 0 big 1:1:", "define 0 0 little 3:10:2\ndata 0 ", "define 0 0 big 253:4:0\ndata 0 00000000\nshort 0 1", "define 0 0 big\ndata", "short 0", "define 0 0 "} {
		walk(s, 4)
	}
}

// longText is lines of a right file, with just so many bytes.
func longText(many int) string {
	head := "define 0 0 big"
	for n := range 28 {
		head += fmt.Sprintf(" %d:255:2", n)
	}
	data := "data 0 " + strings.Repeat("00", 28*255) + "\n"
	s := head + "\n" + strings.Repeat(data, 699)
	// Definitions with 15 and 16 bytes have any number of bytes together.
	left := many - len(s)
	return s + strings.Repeat("define 0 0 big\n", left/15-left%15) + strings.Repeat("define 10 0 big\n", left%15)
}

func TestB8Sizes(t *testing.T) {
	s := longText(record.MaxText)
	f, line, e := record.Parse(s)
	want(t, "Parse of the most bytes", told(len(s), len(f.Entries), line, e), "10000000 1528 0 0")
	got, e := record.Print(f)
	want(t, "Print of the most bytes", told(got == s, e), "true 0")

	s = longText(record.MaxText + 1)
	g, line, e := record.Parse(s)
	want(t, "Parse of more", told(len(s), len(g.Entries), line, e), "10000001 0 0 3")
	f = file(strings.Split(strings.TrimSuffix(s, "\n"), "\n")...)
	got, e = record.Print(f)
	want(t, "Print of more", told(checked(api.File{Entries: f.Entries[:800]}), len(got), e), "0 0 3")

	_, line, e = record.Parse(strings.Repeat("x", record.MaxText))
	want(t, "Parse of wrong bytes", told(line, e), "0 6")
	_, line, e = record.Parse(strings.Repeat("x", record.MaxText+1))
	want(t, "Parse of more wrong bytes", told(line, e), "0 3")
}

func TestB8ManyLines(t *testing.T) {
	s := "define 0 0 big\n" + strings.Repeat("data 0 -\n", record.MaxEntries-1)
	f, line, e := record.Parse(s)
	want(t, "the most entries", told(len(f.Entries), line, e), "50000 0 0")
	f, line, e = record.Parse(s + "data 0 -\n")
	want(t, "one more", told(len(f.Entries), line, e), "0 0 3")
	f, line, e = record.Parse(s + "data 0 -\ndata 0 -\ndata 0 0\n")
	want(t, "more, and a wrong one", told(len(f.Entries), line, e), "0 50002 6")
}

func TestB8OwnMemory(t *testing.T) {
	f := file(timed, "data 0 0000000000", "short 0 1 ff")
	untouched(t, "Print", f, func(f api.File) []any { record.Print(f); return nil })
	g, _, _ := record.Parse("define 0 0 big 1:1:0\ndata 0 00\n")
	g.Entries[0].Define[0].Fields[0].Size = 9
	h, _, _ := record.Parse("define 0 0 big 1:1:0\ndata 0 00\n")
	want(t, "Parse once more", textOf(h.Entries), "define 0 0 big 1:1:0\ndata 0 00\n")
}
