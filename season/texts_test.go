package season_test

import (
	"fmt"
	"math/rand"
	"regexp"
	"strconv"
	"strings"
	"testing"

	"harrier/api"
	"harrier/season"
)

// read tells what Read returns, with the season as it is.
func read(s string) string { return told(season.Read(s)) }

func TestH5Print(t *testing.T) {
	s := seasonOf(14, off(6), minutes(0, 45), most(500), least(0), apart(2), count("easy", 0, 7), grow(110), fixed(3, "fast"), fixed(13, ""), taper(13, 14, 100000))
	s.First, s.Before = 999985, 100000
	s.Sessions = append(s.Sessions, api.Session{Name: "A-1._", Load: 1000}, api.Session{Name: "hard", Worth: 1000, Hard: true})
	text := `season 999985 14 100000
session easy 40 60 3
session fast 80 50 5 hard
session A-1._ 1000 0 0
session hard 0 0 1000 hard
off 6
minutes 0 45
most 500
least 0
apart 2
count easy 0 7
grow 110
fixed 3 fast
fixed 13
taper 13 14 100000
`
	want(t, "all kinds of lines", told(season.Print(s)), told(text, 0))
	want(t, "the same, read", read(text), told(s, 0, 0))
	want(t, "one line", told(season.Print(api.Season{Days: 1})), "season 0 1 0\n 0")
	want(t, "without days", told(season.Print(api.Season{})), " 9")
}

func TestH5ReadPrinted(t *testing.T) {
	r := rand.New(rand.NewSource(87))
	for range 3000 {
		s, _ := randomSeason(r, 1+r.Intn(14), r.Intn(5))
		text, e := season.Print(s)
		want(t, fmt.Sprint(s), told(e), "0")
		want(t, text, read(text), told(s, 0, 0))
	}
}

const noSeason = "{0 0 0 [] []} "

// TestH5Lines has lines behind `season` and two sessions: they are line 3.
func TestH5Lines(t *testing.T) {
	for _, c := range [][2]string{
		{"off 6", "{1 6 0 0 0 }"}, {"minutes 6 100000", "{2 6 100000 0 0 }"}, {"most 0", "{3 0 0 0 0 }"}, {"least 5", "{4 0 5 0 0 }"}, {"apart 14", "{5 0 14 0 0 }"},
		{"count a 0 7", "{6 0 0 0 7 a}"}, {"grow 99", "{7 0 99 0 0 }"}, {"fixed 3 b", "{8 3 0 0 0 b}"}, {"fixed 3", "{8 3 0 0 0 }"}, {"taper 4 2 9", "{9 4 9 2 0 }"},
		{"  off   6  ", "{1 6 0 0 0 }"}, {"  fixed   3   ", "{8 3 0 0 0 }"}, {"fixed  3  b  ", "{8 3 0 0 0 b}"},
	} {
		for _, end := range []string{"", "\n", "\n\n", " \n  \n "} {
			want(t, c[0]+end, read("season 1 5 2\nsession a 1 2 3\nsession b 4 5 6 hard\n"+c[0]+end), "{1 5 2 [{a 1 2 3 false} {b 4 5 6 true}] ["+c[1]+"]} 0 0")
		}
	}
}

func TestH5WrongLines(t *testing.T) {
	for _, s := range []string{
		"x", "0", "-", "hard", "season", "season 1 5 2", "season 1 5", "off", "off a", "off 1 2", "off 01", "off -1", "off +1", "off 1.", "off 1\t", "\toff 1", "off\t1", "off 1\r", "off 1\v", "off 1\x00", "off 1 hard", "Off 1", "offs 1", "of 1", "off1", "off 1234567890", "off 00", "off 0x1", "off 1_0", "off \u0661", "off\u00a01", "off 1#", "# x",
		"minutes 1", "minutes 1 2 3", "minutes 1 a", "minutes", "most", "most a", "most 1 2", "most -", "least", "least 1 2", "apart", "apart 1 2", "apart 02",
		"count", "count a", "count a 1", "count a 1 2 3", "count 1 2", "count a 1 b", "count a b 1", "count 1 2 a", "count a -1 2", "grow", "grow 1 2", "grow 1%", "fixed", "fixed a", "fixed a 1", "fixed 1 a b", "fixed -1", "fixed 1 a 2", "taper", "taper 1", "taper 1 2", "taper 1 2 3 4", "taper a 2 3", "taper 1 2 3 a",
		"session", "session c", "session c 1", "session c 1 2", "session c 1 2 a", "session c 1 2 3 4", "session c 1 2 3 Hard", "session c 1 2 3 hard hard", "session c 1 2 3 hard 4", "session c 1 2 hard", "session c hard 1 2 3", "session 1 2 3", "session c 01 2 3", "session c 1 2 -3", "session c d 1 2 3", "session hard", "sessions c 1 2 3",
	} {
		want(t, s, read("season 1 5 2\nsession a 1 2 3\n\n"+s+"\nx"), noSeason+"3 6")
		want(t, s+", last", read("\n\nseason 1 5 2\n   \n"+s), noSeason+"4 6")
	}
}

func TestH5Order(t *testing.T) {
	for _, c := range [][2]string{
		{"", "0 6"}, {"\n", "1 6"}, {"\n\n", "2 6"}, {" ", "1 6"}, {" \n", "1 6"}, {" \n ", "2 6"}, {"\n\n\n  ", "4 6"}, {strings.Repeat("\n", 100000), "100000 6"},
		{"off 1\nseason 0 1 0", "0 6"}, {"session a 1 1 1\nseason 0 1 0", "0 6"}, {"\nx\nseason 0 1 0", "1 6"}, {"Season 0 1 0", "0 6"},
		{"season", "0 6"}, {"season 0", "0 6"}, {"season 0 1", "0 6"}, {"season 0 1 0 0", "0 6"}, {"season a 1 0", "0 6"}, {"season 0 1 00", "0 6"}, {"season -1 1 0", "0 6"}, {"season 1234567890 1 0", "0 6"}, {"season\t0 1 0", "0 6"}, {"\ufeffseason 0 1 0", "0 6"},
		{"season 0 1 0\nseason 0 1 0", "1 6"}, {"season 0 1 0\noff 1\n\nseason 0 1 0", "3 6"}, {"season 0 1 0\nsession a 1 1 1\nseason 0 1 0", "2 6"},
		{"season 0 1 0\noff 1\nsession a 1 1 1", "2 6"}, {"season 0 1 0\nsession a 1 1 1\noff 1\nsession b 1 1 1\nx", "3 6"},
		{"season 999999999 999999999 999999999", "0 9"}, {"season 0 0 0", "0 9"}, {"season 0 15 0\nx", "1 6"},
		{"season 0 1 0\nsession a,b 1 1 1", "0 8"}, {"season 0 1 0\nsession \xff 1 1 1", "0 8"}, {"season 0 1 0\nsession a\tb 1 1 1", "0 8"}, {"season 0 1 0\nsession a 1 1 1\nsession a 1 1 1", "0 5"}, {"season 0 1 0\nsession a 1001 1 1", "0 9"},
		{"season 0 1 0\nfixed 0 a", "0 4"}, {"season 0 1 0\ncount a 0 1", "0 4"}, {"season 0 1 0\nfixed 1", "0 9"}, {"season 0 1 0\nfixed 0 hard", "0 4"},
		{"season 0 1 0\n" + strings.Repeat("most 1\n", 13), "0 3"}, {"season 0 1 0\n" + strings.Repeat("most 1\n", 5000), "0 3"}, {"season 0 1 0\n" + strings.Repeat("most 1\n", 5000) + "session a 1 1 1", "5001 6"},
		{"season 0 1 0\nsession a 1 1 1\nsession b 1 1 1\nsession c 1 1 1\nsession d 1 1 1\nsession e 1 1 1\n", "0 3"},
	} {
		want(t, c[0][:min(len(c[0]), 100)], read(c[0]), noSeason+c[1])
	}
	want(t, "rules alone", read("season 0 1 0\noff 1"), "{0 1 0 [] [{1 1 0 0 0 }]} 0 0")
	want(t, "sessions alone", read("season 0 1 0\nsession session 1 1 1"), "{0 1 0 [{session 1 1 1 false}] []} 0 0")
	want(t, "nothing else", read("\n  season  0  1  0  \n\n"), "{0 1 0 [] []} 0 0")
}

func TestH5Size(t *testing.T) {
	s := "season 0 1 0\n"
	full := s + strings.Repeat(" ", season.MaxText-len(s))
	want(t, "as long as can be", read(full), "{0 1 0 [] []} 0 0")
	want(t, "a byte more", read(full+" "), noSeason+"0 3")
	want(t, "a line more", read(full+"\n"), noSeason+"0 3")
	want(t, "too long, and wrong", read("x\n"+full), noSeason+"0 3")
}

const whole = `(0|[1-9][0-9]{0,8})`

// lineForms has a form for each kind of line, in which all blanks are single; rules stand behind the first two.
var lineForms = []*regexp.Regexp{
	regexp.MustCompile(`^season ` + whole + ` ` + whole + ` ` + whole + `$`),
	regexp.MustCompile(`^session ([^ ]+) ` + whole + ` ` + whole + ` ` + whole + `( hard)?$`),
	regexp.MustCompile(`^off (?P<Day>` + whole + `)$`),
	regexp.MustCompile(`^minutes (?P<Day>` + whole + `) (?P<N>` + whole + `)$`),
	regexp.MustCompile(`^most (?P<N>` + whole + `)$`),
	regexp.MustCompile(`^least (?P<N>` + whole + `)$`),
	regexp.MustCompile(`^apart (?P<N>` + whole + `)$`),
	regexp.MustCompile(`^count (?P<Name>[^ ]+) (?P<Low>` + whole + `) (?P<High>` + whole + `)$`),
	regexp.MustCompile(`^grow (?P<N>` + whole + `)$`),
	regexp.MustCompile(`^fixed (?P<Day>` + whole + `)(?: (?P<Name>[^ ]+))?$`),
	regexp.MustCompile(`^taper (?P<Day>` + whole + `) (?P<Low>` + whole + `) (?P<N>` + whole + `)$`),
}

func numberOf(s string) int { n, _ := strconv.Atoi(s); return n }

// slowRead reads by whole lines.
func slowRead(text string) (s api.Season, line int, e api.Errno) {
	lines := strings.Split(text, "\n")
	if lines[len(lines)-1] == "" {
		lines = lines[:len(lines)-1]
	}
	last := -1 // form of the line ahead
	for i, x := range lines {
		x = strings.Trim(regexp.MustCompile(` +`).ReplaceAllString(x, " "), " ")
		if x == "" {
			continue
		}
		form := len(lineForms) - 1
		for form >= 0 && !lineForms[form].MatchString(x) {
			form--
		}
		if form < 0 || (form == 0) != (last == -1) || form == 1 && last > 1 {
			return api.Season{}, i, api.ErrSyntax
		}
		last = form
		m := lineForms[form].FindStringSubmatch(x)
		named := func(name string) string {
			if at := lineForms[form].SubexpIndex(name); at > 0 {
				return m[at]
			}
			return ""
		}
		switch form {
		case 0:
			s.First, s.Days, s.Before = numberOf(m[1]), numberOf(m[2]), numberOf(m[3])
		case 1:
			s.Sessions = append(s.Sessions, api.Session{Name: m[1], Load: numberOf(m[2]), Minutes: numberOf(m[3]), Worth: numberOf(m[4]), Hard: m[5] != ""})
		default:
			s.Rules = append(s.Rules, api.Rule{Kind: form - 1, Day: numberOf(named("Day")), N: numberOf(named("N")), Low: numberOf(named("Low")), High: numberOf(named("High")), Name: named("Name")})
		}
	}
	if last < 0 {
		return api.Season{}, len(lines), api.ErrSyntax
	}
	if e := slowCheck(s); e != api.OK {
		return api.Season{}, 0, e
	}
	return s, 0, api.OK
}

// spoilText changes something of a text.
func spoilText(r *rand.Rand, s string) string {
	at := r.Intn(len(s) + 1)
	switch r.Intn(6) {
	case 0:
		return s[:at]
	case 1:
		return s[:at] + []string{" ", "  ", "\n", "0", "1", "9", "-", "\t", "a", " hard", "\r", "ü", "season 0 1 0\n", "session x 1 1 1\n", "off 1\n"}[r.Intn(15)] + s[at:]
	case 2:
		return s[:at] + s[min(at+1, len(s)):]
	}
	lines := strings.SplitAfter(s, "\n")
	from, to := r.Intn(len(lines)), r.Intn(len(lines))
	switch r.Intn(3) {
	case 0:
		lines[from], lines[to] = lines[to], lines[from]
	case 1:
		lines[from] = ""
	case 2:
		lines[from] = strings.ReplaceAll(lines[from], " ", "  ") + lines[to]
	}
	return strings.Join(lines, "")
}

func TestH5ReadWords(t *testing.T) {
	r := rand.New(rand.NewSource(88))
	seen := map[api.Errno]int{}
	for range 30000 {
		s, _ := randomSeason(r, 1+r.Intn(14), r.Intn(5))
		text, _ := season.Print(s)
		for range 1 + r.Intn(3) {
			text = spoilText(r, text)
		}
		got, line, e := season.Read(text)
		seen[e]++
		want(t, text, told(got, line, e), told(slowRead(text)))
	}
	for _, e := range []api.Errno{api.OK, api.ErrSyntax, api.ErrRange, api.ErrNone, api.ErrTwice, api.ErrName, api.ErrSize} {
		if seen[e] < 20 {
			t.Error("not often: ", e, seen[e])
		}
	}
}
