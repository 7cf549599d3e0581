package quant_test

import (
	"regexp"
	"strings"
	"testing"

	"harrier/api"
	"harrier/quant"
)

// language is the texts of a function that reads: whole ones match, and the beginning of one matches with one of the ends behind it.
type language struct {
	name     string
	whole    string
	ends     []string
	alphabet string
	depth    int
	first    []string // beginnings from which the texts are tried
	read     func(s string) (at int, e api.Errno)
}

const (
	long  = `(?:0|[1-9]\d{0,6})`
	below = `(?:0|[1-9]\d{0,2})`
	sixty = `[0-5]\d`
)

func languages() []language {
	zone := api.Zone{}
	return []language{
		{"ReadDuration", `[1-5]?\d:` + sixty + `|[1-9]\d{0,2}:` + sixty + `:` + sixty +
			`|` + long + `h(?:` + long + `m)?(?:` + long + `s)?|` + long + `m(?:` + long + `s)?|` + long + `s`,
			[]string{"", ":00", "0:00", "00", "0", "00:00", ":00:00", "h", "m", "s", "0s"}, "0156:hms x", 5,
			[]string{"", "99", "1:59", "59:5", "9999:", "999999", "1h2m", "1h99999", "3m", "59:59:5", "999:59"},
			func(s string) (int, api.Errno) { _, at, e := quant.ReadDuration(s); return at, e }},
		{"ReadDistance", long + `(?:\.\d{1,6})? ?(?:m|km|yd|mi)`,
			[]string{"", "m", "d", "i", "0m"}, "019. mkydi", 5,
			[]string{"", "123456", "9999999.", "0.12345", "1.2 ", "10k"},
			func(s string) (int, api.Errno) { _, at, e := quant.ReadDistance(s); return at, e }},
		{"ReadPace", below + `:` + sixty + `/(?:km|mi|100m)|` + below + `(?:\.\d)? km/h`,
			[]string{"", ":00/km", "00/km", "0/km", "/km", "km", "m", "i", "00m", "0m", " km/h", "km/h", "m/h", "/h", "h", "0 km/h"}, "0169:/ .kmhi", 5,
			[]string{"", "99", "5:0", "999:59", "4:30/", "12 k", "12.5", "7:00/10"},
			func(s string) (int, api.Errno) { _, at, e := quant.ReadPace(s); return at, e }},
		{"ReadDate", `\d{4}-\d\d-\d\d`,
			[]string{"", "2000-01-03"[1:], "00-01-03", "0-01-03", "-01-03", "01-03", "1-03", "-03", "03", "3", "2000-01-03"}, "09-:a", 5,
			[]string{"", "999", "0000-", "2000-99", "2024-02-2"},
			func(s string) (int, api.Errno) { _, at, e := quant.ReadDate(s); return at, e }},
		{"ReadStamp", `\d{4}-\d\d-\d\d (?:[01]\d|2[0-3]):` + sixty + `:` + sixty,
			stampEnds(), "012456- :", 5,
			[]string{"", "2000-0", "2000-01-03", "2000-01-03 ", "2000-01-03 1", "2000-01-03 23:5", "2000-01-03 23:59:"},
			func(s string) (int, api.Errno) { _, at, e := quant.ReadStamp(zone, s, false); return at, e }},
		{"ReadSpans", `(?:N(?:-N)?(?:,N(?:-N)?)*)?`,
			[]string{"", "0"}, "01-,a ", 6,
			[]string{"", "999999999999", "1-999999999999", "5-6,"},
			func(s string) (int, api.Errno) { _, at, e := quant.ReadSpans(s); return at, e }},
	}
}

// stampEnds are all ends of a stamp.
func stampEnds() []string {
	const s = "2000-01-03 00:00:00"
	var l []string
	for i := range len(s) + 1 {
		l = append(l, s[i:])
	}
	return l
}

// walk tries texts: those that cannot go on are made longer by one byte only.
func (x *language) walk(t *testing.T, whole *regexp.Regexp, s string, depth int) {
	at := x.longest(whole, s)
	got, e := x.read(s)
	switch {
	case whole.MatchString(s):
		if got != 0 || e == api.ErrSyntax {
			t.Errorf("%s %q: got %d %d, and it has a form", x.name, s, got, e)
		}
	case got != at || e != api.ErrSyntax:
		t.Errorf("%s %q: got %d %d, want %d 6", x.name, s, got, e, at)
	}
	if depth == 0 || at < len(s)-1 {
		return
	}
	for i := range len(x.alphabet) {
		x.walk(t, whole, s+x.alphabet[i:i+1], depth-1)
	}
}

// longest returns how long the longest beginning of s is that is one of a text with a form.
func (x *language) longest(whole *regexp.Regexp, s string) int {
	for at := len(s); at > 0; at-- {
		for _, end := range x.ends {
			if whole.MatchString(s[:at] + end) {
				return at
			}
		}
	}
	return 0
}

func TestA2Places(t *testing.T) {
	for _, x := range languages() {
		whole := regexp.MustCompile(`^(?:` + strings.ReplaceAll(x.whole, "N", `(?:0|[1-9]\d{0,12})`) + `)$`)
		for _, s := range x.first {
			x.walk(t, whole, s, x.depth)
		}
	}
}

func TestA2Sizes(t *testing.T) {
	for _, x := range languages() {
		most := 1_000
		if x.name == "ReadSpans" {
			most = 40_000
		}
		at, e := x.read(strings.Repeat("x", most))
		want(t, x.name+" of the most bytes", told(at, e), "0 6")
		at, e = x.read(strings.Repeat("x", most+1))
		want(t, x.name+" of too many bytes", told(at, e), "0 3")
		at, e = x.read("5\x00")
		want(t, x.name+" of a byte 0", told(at, e), "1 6")
		at, e = x.read("\xff\x80")
		want(t, x.name+" of other bytes", told(at, e), "0 6")
	}
}

func TestA2ReadWhole(t *testing.T) {
	for _, c := range []struct {
		s    string
		most int
		want string
	}{
		{"0", 1, "0 true"}, {"7", 1, "7 true"}, {"10", 2, "10 true"}, {"999999999", 9, "999999999 true"}, {"100000000000000000", 18, "100000000000000000 true"},
		{"", 9, "0 false"}, {"00", 9, "0 false"}, {"07", 9, "0 false"}, {"10", 1, "0 false"}, {"1234567890", 9, "0 false"}, {"0", 0, "0 false"},
		{"-1", 9, "0 false"}, {"+1", 9, "0 false"}, {" 1", 9, "0 false"}, {"1 ", 9, "0 false"}, {"1/", 9, "0 false"}, {"1:", 9, "0 false"}, {"1a2", 9, "0 false"}, {"١", 9, "0 false"},
	} {
		want(t, "ReadWhole "+c.s, told(quant.ReadWhole(c.s, c.most)), c.want)
	}
}

func TestA2ReadSigned(t *testing.T) {
	for _, c := range []struct {
		s    string
		most int
		want string
	}{
		{"0", 1, "0 true"}, {"7", 1, "7 true"}, {"-7", 1, "-7 true"}, {"-999999999", 9, "-999999999 true"}, {"999999999", 9, "999999999 true"}, {"-10", 2, "-10 true"},
		{"-0", 9, "0 false"}, {"-", 9, "0 false"}, {"", 9, "0 false"}, {"--1", 9, "0 false"}, {"-01", 9, "0 false"}, {"-00", 9, "0 false"}, {"-1234567890", 9, "0 false"}, {"1234567890", 9, "0 false"},
		{"+1", 9, "0 false"}, {"- 1", 9, "0 false"}, {" -1", 9, "0 false"}, {"1-", 9, "0 false"}, {"-1-", 9, "0 false"},
	} {
		want(t, "ReadSigned "+c.s, told(quant.ReadSigned(c.s, c.most)), c.want)
	}
}

func TestA2ReadWholes(t *testing.T) {
	for _, c := range []struct {
		words []string
		want  string
	}{
		{[]string{"5", "0"}, "5 0 true"}, {[]string{"999", "10"}, "999 10 true"},
		{nil, "-1 -1 false"}, {[]string{"5"}, "-1 -1 false"}, {[]string{"5", "6", "7"}, "-1 -1 false"},
		{[]string{"5", "1000"}, "5 -1 false"}, {[]string{"05", "6"}, "-1 -1 false"}, {[]string{"", "6"}, "-1 -1 false"},
	} {
		a, b := -1, -1
		ok := quant.ReadWholes(c.words, 3, &a, &b)
		want(t, told("ReadWholes", c.words), told(a, b, ok), c.want)
	}
	want(t, "ReadWholes of nothing", told(quant.ReadWholes(nil, 3)), "true")
}
