package trail_test

import (
	"math/rand"
	"regexp"
	"strconv"
	"strings"
	"testing"

	"harrier/api"
	"harrier/trail"
)

// lines has edits with their lines.
var lines = []struct {
	x    api.Edit
	line string
}{
	{text(trail.EditName, "a"), "name a"},
	{text(trail.EditName, "name"), "name name"},
	{number(trail.EditSport, 5), "sport 5"},
	{tag("-5"), "tag -5"},
	{untag("0"), "untag 0"},
	{shift(0), "shift 0"},
	{shift(-1), "shift -1"},
	{shift(86399999999), "shift 86399999999"},
	{shift(-86399999999), "shift -86399999999"},
	{raise(7), "raise 7"},
	{raise(-200000), "raise -200000"},
	{number(trail.EditField, 3), "field 3"},
	{crop(0, 1000000), "crop 0 1000000"},
	{number(trail.EditLevel, 0), "level 0"},
	{number(trail.EditLevel, 50), "level 50"},
	{number(trail.EditFill, 1000000), "fill 1000000"},
	{lap(5, 6, ""), "lap 5 6 "},
	{lap(0, 10, " "), "lap 0 10  "},
	{lap(0, 10, "  up and  down "), "lap 0 10   up and  down "},
	{lap(1, 2, "7"), "lap 1 2 7"},
	{number(trail.EditUnlap, 199), "unlap 199"},
}

func TestK4Print(t *testing.T) {
	var l []api.Edit
	whole := ""
	for _, c := range lines {
		want(t, c.line, told(trail.Print([]api.Edit{c.x})), c.line+"\n 0")
		want(t, c.line, told(trail.Read(c.line+"\n")), told([]api.Edit{c.x}, 0, 0))
		l = append(l, c.x)
		whole += c.line + "\n"
	}
	want(t, "all", told(trail.Print(l)), whole+" 0")
	want(t, "all", told(trail.Read(whole)), told(l, 0, 0))
	want(t, "none", told(trail.Print(nil)), " 0")
	want(t, "none", told(trail.Read("")), "[] 0 0")
	want(t, "a wrong one", told(trail.Print([]api.Edit{tag("x"), shift(api.MaxMoment + 1), {}})), " 9")
	want(t, "a form", told(trail.Print([]api.Edit{{Kind: trail.EditCrop, From: 1, To: 2, N: 1}})), " 2")
	l = many(200, func(int) api.Edit { return tag("x") })
	want(t, "as many as can be", told(trail.Print(l)), strings.Repeat("tag x\n", 200)+" 0")
	want(t, "one more", told(trail.Print(append(l, tag("x")))), " 3")
	want(t, "too many, all wrong", told(trail.Print(make([]api.Edit, 201))), " 3")
}

func TestK4Syntax(t *testing.T) {
	for _, s := range []string{
		"", " ", "x", "name", "name ", "name  ", "name  a", "name a ", "name a b", " name a", "name\ta", "Name a", "names a", "nam a", "namea", "1 a", "tag", "tag ", "tag a b", "tag  a", "untag ", "untag a ", "untags a",
		"sport", "sport ", "sport run", "sport 01", "sport 1 ", "sport  1", "sport 1 2", "sport -1", "sport +1", "sport 1.0", "sport \u0661", "sport 1234567890123",
		"shift", "shift ", "shift -", "shift -0", "shift --1", "shift +1", "shift 1-", "shift 00", "shift -01", "shift - 1", "shift 1000000000000", "shift -1000000000000", "shift 1 2", "shift 1e3", "raise -0", "raise -00", "raise", "raise 0x1", "raise 1\r", "raise 1\x00",
		"field -1", "field pulse", "field", "crop", "crop 1", "crop 1 ", "crop 1 2 ", "crop 1 2 3", "crop -1 2", "crop 1 -2", "crop 1  2", "crop 01 2", "crop 1 02", "crop a 2", "crop 1 b", "crop 1,2",
		"level -1", "level", "level 1 2", "fill -1", "fill x", "unlap -1", "unlap", "unlap 1 x",
		"lap", "lap ", "lap 1", "lap 1 ", "lap 1 5", "lap 1 5x", "lap  1 5 x", "lap 1  5 x", "lap -1 5 x", "lap 1 -5 x", "lap 01 5 x", "lap 1 05 x", "lap x 5 x", "lap 1 x ", "lap 1 5\tx", "lap 1234567890123 5 x", "laps 1 5 x",
		"tag a,b\r ", "undo", "# tag a", "tag a #", "\xff",
	} {
		want(t, s, told(trail.Read(s+"\n")), "[] 1 6")
		want(t, s+", behind others", told(trail.Read("tag ,\nlap 9 5 \n"+s+"\nx\n")), "[] 3 6")
		want(t, s+", without its end", told(trail.Read("tag a\n"+s+"x")), "[] 2 6")
	}
	for _, c := range lines {
		want(t, c.line+", without its end", told(trail.Read(c.line)), "[] 1 6")
		want(t, c.line+", without its end, behind others", told(trail.Read("name ,\n"+c.line+"\n"+c.line)), "[] 3 6")
	}
	want(t, "an empty line at the end", told(trail.Read("tag a\n\n")), "[] 2 6")
	want(t, "too many, the last one is wrong", told(trail.Read(strings.Repeat("tag ,\n", 300)+"x\n")), "[] 301 6")
}

// TestK4Wrong has texts with all lines right, of edits that are not.
func TestK4Wrong(t *testing.T) {
	for _, c := range [][2]string{
		{"name a,b", "8"}, {"tag ü", "8"}, {"untag a\tb", "8"}, {"tag \xff", "8"}, {"tag a\r", "8"}, {"name \x00", "8"}, {"tag " + strings.Repeat("x", 61), "8"},
		{"sport 0", "7"}, {"sport 6", "7"}, {"sport 999999999999", "7"}, {"shift 86400000000", "9"}, {"shift -86400000000", "9"}, {"shift 999999999999", "9"}, {"raise -200001", "9"}, {"raise 200001", "9"},
		{"field 0", "9"}, {"field 4", "9"}, {"crop 5 5", "9"}, {"crop 6 5", "9"}, {"crop 0 1000001", "9"}, {"crop 999999999999 0", "9"}, {"level 51", "9"}, {"fill 1000001", "9"}, {"unlap 200", "9"},
		{"lap 5 5 x", "9"}, {"lap 5 4 \t", "9"}, {"lap 4 5 \t", "8"}, {"lap 4 5 ü", "8"}, {"lap 4 5 " + strings.Repeat(" ", 61), "8"},
		{strings.Repeat("tag x\n", 200) + "tag x", "3"}, {strings.Repeat("tag ,\n", 200) + "sport 0", "3"}, {"tag ,\nsport 0", "8"}, {"crop 1 1\nsport 0", "9"},
	} {
		want(t, c[0], told(trail.Read(c[0]+"\n")), "[] 0 "+c[1])
		want(t, c[0]+", behind another", told(trail.Read("shift 5\n"+c[0]+"\n")), "[] 0 "+c[1])
	}
	want(t, "as many as can be", told(trail.Read(strings.Repeat("tag x\n", 200))), told(many(200, func(int) api.Edit { return tag("x") }), 0, 0))
}

func TestK4Size(t *testing.T) {
	s := "lap 1 2 " + strings.Repeat("x", 99991) + "\n"
	want(t, "as long as can be", told(trail.Read(s)), "[] 0 8")
	want(t, "a byte more", told(trail.Read(s+"\n")), "[] 0 3")
	want(t, "a byte more, all wrong", told(trail.Read(strings.Repeat("x", 100001))), "[] 0 3")
	want(t, "as long as can be, all wrong", told(trail.Read(strings.Repeat("x", 100000))), "[] 1 6")
	want(t, "as long as can be, empty lines", told(trail.Read(strings.Repeat("\n", 100000))), "[] 1 6")
}

const whole = ` (0|[1-9][0-9]{0,11})`

// lineForms has a form for each kind of line.
var lineForms = []*regexp.Regexp{
	trail.EditName:  regexp.MustCompile(`(?s)^name ([^ ]+)$`),
	trail.EditSport: regexp.MustCompile(`^sport` + whole + `$`),
	trail.EditTag:   regexp.MustCompile(`(?s)^tag ([^ ]+)$`),
	trail.EditUntag: regexp.MustCompile(`(?s)^untag ([^ ]+)$`),
	trail.EditShift: regexp.MustCompile(`^shift (0|-?[1-9][0-9]{0,11})$`),
	trail.EditRaise: regexp.MustCompile(`^raise (0|-?[1-9][0-9]{0,11})$`),
	trail.EditField: regexp.MustCompile(`^field` + whole + `$`),
	trail.EditCrop:  regexp.MustCompile(`^crop` + whole + whole + `$`),
	trail.EditLevel: regexp.MustCompile(`^level` + whole + `$`),
	trail.EditFill:  regexp.MustCompile(`^fill` + whole + `$`),
	trail.EditLap:   regexp.MustCompile(`(?s)^lap` + whole + whole + ` (.*)$`),
	trail.EditUnlap: regexp.MustCompile(`^unlap` + whole + `$`),
}

func numberOf(s string) int { n, _ := strconv.Atoi(s); return n }

func slowLine(line string) (api.Edit, bool) {
	for kind, form := range lineForms {
		if form == nil || !form.MatchString(line) {
			continue
		}
		m := form.FindStringSubmatch(line)
		switch kind {
		case trail.EditName, trail.EditTag, trail.EditUntag:
			return text(kind, m[1]), true
		case trail.EditCrop:
			return crop(numberOf(m[1]), numberOf(m[2])), true
		case trail.EditLap:
			return lap(numberOf(m[1]), numberOf(m[2]), m[3]), true
		}
		return number(kind, numberOf(m[1])), true
	}
	return api.Edit{}, false
}

// slowRead reads by whole lines.
func slowRead(s string) (l []api.Edit, line int, e api.Errno) {
	all := strings.SplitAfter(s, "\n")
	for i, x := range all {
		if i == len(all)-1 && x == "" {
			break
		}
		edit, ok := slowLine(strings.TrimSuffix(x, "\n"))
		if !ok || !strings.HasSuffix(x, "\n") {
			return nil, i + 1, api.ErrSyntax
		}
		l = append(l, edit)
	}
	for _, x := range l {
		if e := trail.CheckEdit(x); e != api.OK {
			return nil, 0, e
		}
	}
	return l, 0, api.OK
}

// spoilText changes something of a text.
func spoilText(r *rand.Rand, s string) string {
	at := r.Intn(len(s) + 1)
	switch r.Intn(6) {
	case 0:
		return s[:at]
	case 1, 2:
		return s[:at] + one(r, " ", "  ", "\n", "0", "1", "9", "-", "\t", "a", "\r", "ü", " 5", " -1", "\ntag x\n", "\nsport 9\n", "\nsport 0\n", "\nsport 77\n", "\ncrop 5 4\n", ",") + s[at:]
	case 3:
		return s[:at] + s[min(at+1, len(s)):]
	}
	words := strings.SplitAfter(s, " ")
	from, to := r.Intn(len(words)), r.Intn(len(words))
	words[from] = words[to]
	return strings.Join(words, "")
}

func TestK4Random(t *testing.T) {
	r := rand.New(rand.NewSource(114))
	seen := map[api.Errno]int{}
	for range 30000 {
		l := randomEdits(r, 5)
		s, e := trail.Print(l)
		want(t, told(l), told(e), "0")
		want(t, s, told(trail.Read(s)), told(l, 0, 0))
		for range 1 + r.Intn(3) {
			s = spoilText(r, s)
		}
		got, line, e := trail.Read(s)
		seen[e]++
		want(t, s, told(got, line, e), told(slowRead(s)))
	}
	wantOften(t, seen, api.OK, api.ErrSyntax, api.ErrRange, api.ErrKind, api.ErrName)
}
