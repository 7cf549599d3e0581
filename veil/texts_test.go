package veil_test

import (
	"math/rand"
	"regexp"
	"slices"
	"strconv"
	"strings"
	"testing"

	"harrier/api"
	"harrier/veil"
)

// lines has a rule of each kind, with its line.
var lines = []struct {
	r    api.VeilRule
	line string
}{
	{place(1, 0, 0, 0), "friend place 0 0 0"},
	{place(2, -100_000_000, 100_000_000, 1_000_000), "club place -100000000 100000000 1000000"},
	{place(3, -1, -20, 300), "all place -1 -20 300"},
	{hours(1, 0, 86399), "friend hours 0 86399"},
	{hours(2, 5, 5), "club hours 5 5"},
	{field(3, api.FieldPulse), "all pulse"},
	{field(2, api.FieldPower), "club power"},
	{field(1, api.FieldSteps), "friend steps"},
	{field(3, api.FieldHeight), "all height"},
	{tag(1, "day"), "friend tag day"},
	{tag(2, "-5"), "club tag -5"},
	{sport(3, api.Run), "all sport 1"},
	{sport(1, api.Ski), "friend sport 5"},
	{day(2), "club day"},
	{name(3), "all name"},
	{grid(1, 1), "friend grid 1"},
	{grid(2, 1_000_000), "club grid 1000000"},
}

func TestJ6Print(t *testing.T) {
	var v api.Veil
	text := ""
	for _, x := range lines {
		want(t, x.line, told(veil.Print(veilOf(x.r))), x.line+"\n 0")
		want(t, x.line, told(veil.Read(x.line+"\n")), told(veilOf(x.r), 0, 0))
		v.Rules = append(v.Rules, x.r)
		text += x.line + "\n"
	}
	want(t, "all", told(veil.Print(v)), text+" 0")
	want(t, "all", told(veil.Read(text)), told(v, 0, 0))
	want(t, "none", told(veil.Print(api.Veil{})), " 0")
	want(t, "none", told(veil.Read("")), "{[]} 0 0")
	v.Rules[3].Hours.To = 86400
	want(t, "a wrong one", told(veil.Print(v)), " 9")
}

// TestJ6Blanks has texts that Print does not write.
func TestJ6Blanks(t *testing.T) {
	for _, x := range lines {
		wanted := told(veilOf(x.r), 0, 0)
		spaced := strings.ReplaceAll(x.line, " ", "   ")
		for _, s := range []string{x.line, " " + x.line, x.line + " ", "  " + spaced + "  ", "\n" + x.line, x.line + "\n\n", "  \n \n" + spaced + " \n  ", "\n\n\n\n" + spaced} {
			want(t, s, told(veil.Read(s)), wanted)
		}
	}
	for _, s := range []string{"\n", " ", "   \n  ", "\n\n\n"} {
		want(t, s, told(veil.Read(s)), "{[]} 0 0")
	}
	want(t, "two lines, the last one without an end", told(veil.Read("all day\n club  day")), told(veilOf(day(3), day(2)), 0, 0))
}

func TestJ6Syntax(t *testing.T) {
	for _, s := range []string{
		"x", "all", "friend", "club ", "day", "none day", "oneself day", "All day", "all  ", "allday", "all Day", "all dayy", "all da", "all day 1", "all day x", "all name x", "all names", "friends day", "1 day", "3 day",
		"all pulse 1", "all power x", "all steps -", "all height 0", "all field 1", "all n 1", "all z", "all 3", "day all", "all all day", "all friend day",
		"all place", "all place 1", "all place 1 2", "all place 1 2 3 4", "all place a 2 3", "all place 1 b 3", "all place 1 2 c", "all place 1,2,3", "all place 1 2 3 x",
		"all hours", "all hours 1", "all hours 1 2 3", "all hours 1-2", "all hours 1 x", "all hours x 1", "all hours 1:00 2:00",
		"all tag", "all tag a b", "all tags a", "all sport", "all sport run", "all sport 1 2", "all grid", "all grid 1 2", "all grid x", "all grid 1.5",
		"all grid 01", "all grid 00", "all grid -0", "all grid +1", "all grid -01", "all grid --1", "all grid -", "all grid 1-", "all grid 1e3", "all grid 1_000", "all grid 0x1", "all grid \u0661",
		"all grid 1234567890", "all grid -1234567890", "all grid 0000000001", "all place 1000000000 0 0", "all place 0 -1000000000 0", "all place - 0 0", "all place 0 -0 0", "all place 0 0 -00",
		"all\tday", "\tall day", "all day\r", "all day\t", "all\u00a0day", "all day\x00", "\ufeffall day", "all tag a\tb c", "# all day", "all day;", "all ", "all \xff",
	} {
		want(t, s, told(veil.Read(s)), "{[]} 0 6")
		want(t, s+", behind others", told(veil.Read("all day\n\n  \nall tag ,\n"+s+"\nx\n")), "{[]} 4 6")
	}
}

// TestJ6Wrong has texts with all lines right, of a veil that is not.
func TestJ6Wrong(t *testing.T) {
	for _, c := range [][2]string{
		{"all place 100000001 0 0", "9"}, {"all place 0 -999999999 0", "9"}, {"all place 0 0 1000001", "9"}, {"all place 0 0 -1", "9"},
		{"all hours 5 4", "9"}, {"all hours 0 86400", "9"}, {"all hours -1 4", "9"}, {"all hours -5 -4", "9"},
		{"all grid 0", "9"}, {"all grid -5", "9"}, {"all grid 1000001", "9"}, {"all grid 999999999", "9"},
		{"all sport 0", "7"}, {"all sport 6", "7"}, {"all sport -1", "7"}, {"all tag a,b", "8"}, {"all tag ü", "8"}, {"all tag a\tb", "8"}, {"all tag \xff", "8"}, {"all tag " + strings.Repeat("x", 61), "8"},
		{strings.Repeat("all day\n", 51), "3"}, {strings.Repeat("all grid 0\n", 51), "3"},
	} {
		want(t, c[0], told(veil.Read(c[0])), "{[]} 0 "+c[1])
		want(t, c[0]+", behind another", told(veil.Read("\nall day\n"+c[0])), "{[]} 0 "+c[1])
	}
	want(t, "a wrong line behind", told(veil.Read(strings.Repeat("all grid 0\n", 51)+"all\n")), "{[]} 51 6")
	want(t, "the first one of two", told(veil.Read("all tag ,\nall sport 9\n")), "{[]} 0 8")
}

func TestJ6Size(t *testing.T) {
	text := strings.Repeat("\n", veil.MaxText-8) + "all  day"
	want(t, "as long as can be", told(veil.Read(text)), told(veilOf(day(3)), 0, 0))
	want(t, "a byte more", told(veil.Read(text+"\n")), "{[]} 0 3")
	want(t, "a byte more, all wrong", told(veil.Read(strings.Repeat("x", veil.MaxText+1))), "{[]} 0 3")
	want(t, "as long as can be, wrong in the last line", told(veil.Read(text[2:]+" x")), told("{[]}", veil.MaxText-10, 6))
}

const number = ` +(0|-?[1-9][0-9]{0,8})`

// lineForms has a form for each kind of line.
var lineForms = []*regexp.Regexp{
	api.VeilPlace: regexp.MustCompile(`^ *(friend|club|all) +place` + number + number + number + ` *$`),
	api.VeilHours: regexp.MustCompile(`^ *(friend|club|all) +hours` + number + number + ` *$`),
	api.VeilField: regexp.MustCompile(`^ *(friend|club|all) +(pulse|power|steps|height) *$`),
	api.VeilTag:   regexp.MustCompile(`^ *(friend|club|all) +tag +([^ ]+) *$`),
	api.VeilSport: regexp.MustCompile(`^ *(friend|club|all) +sport` + number + ` *$`),
	api.VeilDay:   regexp.MustCompile(`^ *(friend|club|all) +day *$`),
	api.VeilName:  regexp.MustCompile(`^ *(friend|club|all) +name *$`),
	api.VeilGrid:  regexp.MustCompile(`^ *(friend|club|all) +grid` + number + ` *$`),
}

func numberOf(s string) int { n, _ := strconv.Atoi(s); return n }

func slowRule(line string) (api.VeilRule, bool) {
	for kind, form := range lineForms {
		if form == nil || !form.MatchString(line) {
			continue
		}
		m := append(form.FindStringSubmatch(line), "", "")
		r := api.VeilRule{From: map[string]int{"friend": 1, "club": 2, "all": 3}[m[1]], Kind: kind}
		switch kind {
		case api.VeilPlace:
			r.X, r.Y, r.R = numberOf(m[2]), numberOf(m[3]), numberOf(m[4])
		case api.VeilHours:
			r.Hours = api.Span{From: numberOf(m[2]), To: numberOf(m[3])}
		case api.VeilField:
			r.N = 1 + slices.Index([]string{"pulse", "power", "steps", "height"}, m[2])
		case api.VeilTag:
			r.Text = m[2]
		default:
			r.N = numberOf(m[2])
		}
		return r, true
	}
	return api.VeilRule{}, false
}

// slowRead reads by whole lines.
func slowRead(text string) (v api.Veil, line int, e api.Errno) {
	for i, x := range strings.Split(text, "\n") {
		if strings.Trim(x, " ") == "" {
			continue
		}
		r, ok := slowRule(x)
		if !ok {
			return api.Veil{}, i, api.ErrSyntax
		}
		v.Rules = append(v.Rules, r)
	}
	if e := veil.Check(v); e != api.OK {
		return api.Veil{}, 0, e
	}
	return v, 0, api.OK
}

// spoilText changes something of a text.
func spoilText(r *rand.Rand, s string) string {
	at := r.Intn(len(s) + 1)
	switch r.Intn(6) {
	case 0:
		return s[:at]
	case 1, 2:
		return s[:at] + one(r, " ", "  ", "\n", "0", "1", "9", "-", "\t", "a", "\r", "ü", " 5", " -1", "\nall day\n", "\nclub sport 9\n", "\nfriend hours 5 4\n", ",") + s[at:]
	case 3:
		return s[:at] + s[min(at+1, len(s)):]
	}
	words := strings.SplitAfter(s, " ")
	from, to := r.Intn(len(words)), r.Intn(len(words))
	words[from] = words[to]
	return strings.Join(words, "")
}

func TestJ6Words(t *testing.T) {
	r := rand.New(rand.NewSource(111))
	seen := map[api.Errno]int{}
	for range 30000 {
		v := randomVeil(r, 6)
		text, e := veil.Print(v)
		want(t, told(v), told(e), "0")
		want(t, text, told(veil.Read(text)), told(v, 0, 0))
		for range 1 + r.Intn(3) {
			text = spoilText(r, text)
		}
		got, line, e := veil.Read(text)
		seen[e]++
		want(t, text, told(got, line, e), told(slowRead(text)))
	}
	for _, e := range []api.Errno{api.OK, api.ErrSyntax, api.ErrRange, api.ErrKind, api.ErrName} {
		if seen[e] < 20 {
			t.Error("not often: ", e, seen[e])
		}
	}
}
