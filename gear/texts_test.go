package gear_test

import (
	"fmt"
	"math/rand"
	"regexp"
	"slices"
	"strconv"
	"strings"
	"testing"

	"harrier/api"
	"harrier/gear"
)

// read tells what Read returns, with the garage as it is.
func read(s string) string { return told(gear.Read(s)) }

const noGarage = "{[] [] [] []} "

func TestI7Print(t *testing.T) {
	g := withUses(bikes(mount("front", "a", 0, 5), mount("rear", "b", 3, -1), mount("seat", "a", last-1, last)), use("u", "bike", 0, 1, 0), use("-", "boat", last, 1_000_000, 1_000_000_000))
	g.Parts[2].Cost = gear.MaxCost
	text := `part a 100
part b 50
part c 1000000000
slot front bike
slot rear bike
slot seat tandem
mount front a 0 5
mount rear b 3 -
mount seat a 86399999998 86399999999
use u bike 0 1 0
use - boat 86399999999 1000000 1000000000
`
	want(t, "all kinds of lines", told(gear.Print(g)), told(text, 0))
	want(t, "the same, read", read(text), told(g, 0, 0))
	want(t, "nothing", told(gear.Print(api.Garage{})), " 0")
	want(t, "nothing, read", read(""), noGarage+"0 0")
	for _, line := range []string{"part a 0\n", "slot a b\n", "use a b 0 1 0\n"} {
		g, at, e := gear.Read(line)
		want(t, "one line", told(at, e), "0 0")
		want(t, "one line", told(gear.Print(g)), told(line, 0))
	}
	g.Uses[0].Way = -1
	want(t, "a wrong one", told(gear.Print(g)), " 9")
}

func TestI7ReadPrinted(t *testing.T) {
	r := rand.New(rand.NewSource(103))
	for range 5000 {
		g, _ := randomGarage(r)
		text, e := gear.Print(g)
		want(t, fmt.Sprint(g), told(e), "0")
		want(t, text, read(text), told(g, 0, 0))
	}
}

// TestI7WrongLines has lines that are wrong behind two that are right.
func TestI7WrongLines(t *testing.T) {
	for _, s := range []string{
		"", " ", "x", "0", "-", "part", "slot", "mount", "use", "parts b 1", "Part b 1", "PART b 1", "part: b 1", "\tpart b 1", " part b 1", "part b 1 ", "part b 1\r", "part b\t1", "part  b 1", "part b  1", "part b", "part b ", "part  1", "part b c", "part b 1 2", "part 1 b", "part b -1", "part b +1", "part b 01", "part b 00", "part b 0x1", "part b 1.0", "part b 1_0", "part b 1e3", "part b -", "part b 1234567890123", "part b 0000000000001", "part b \u0661", "part\u00a0b 1", "part b c 1",
		"slot f", "slot f ", "slot  r", "slot f r ", "slot f r 1", "slot f r s", "slot  f r", "slot f  r", "slots f r", " slot f r",
		"mount s a 1", "mount s a 1 ", "mount s a - -", "mount s a - 5", "mount s a 1 -1", "mount s a 1 --", "mount s a 1 - 2", "mount s a 1 2 3", "mount s a 1 2 -", "mount s a -1 2", "mount s a b 2", "mount s a 1 b", "mount s a 01 2", "mount s a 1 02", "mount s 1 2", "mount s a", "mount 1 2", "mount s  1 2", "mount  a 1 2", "mount s a 1  -", "mount s a 1 - ", "mount s a 1234567890123 -", "mount s a 1 1234567890123", "mounts s a 1 2", "mount s a b 1 2",
		"use u r 0 1", "use u r 0 1 ", "use u r 0 1 0 0", "use u r 0 1 -", "use u r 0 - 0", "use u r - 1 0", "use u r 0 1 -5", "use u r 00 1 0", "use u r 0 01 0", "use u r 0 1 00", "use u 0 1 0", "use  r 0 1 0", "use u  0 1 0", "use u r  1 0", "use u r 0 1 0 ", "use u r 0 1 1234567890123", "use u r a 1 0", "uses u r 0 1 0", "used u r 0 1 0",
	} {
		want(t, s, read("part a 1\nslot s r\n"+s+"\nx\n"), noGarage+"3 6")
		want(t, s+", the first one", read(s+"\npart a 1\n"), noGarage+"1 6")
	}
	for _, s := range []string{"part a 0", "slot s r", "mount s a 1 2", "use u r 0 1 0"} {
		want(t, s+", without an end", read("part a 1\n"+s), noGarage+"2 6")
	}
	for i, line := range []string{"part a 1", "slot s r", "mount s a 1 2", "use u r 0 1 0"} {
		for k, before := range []string{"part a 1", "slot s r", "mount s a 1 2", "use u r 0 1 0"} {
			got := read(before + "\n" + line + "\nx")
			if wanted := noGarage + "2 6"; i < k {
				want(t, before+", "+line, got, wanted)
			} else {
				want(t, before+", "+line, got, noGarage+"3 6")
			}
		}
	}
	want(t, "a part behind two kinds", read("part a 1\nslot s r\nuse u r 0 1 0\nmount s a 1 2\n"), noGarage+"4 6")
	want(t, "kinds that are left out", read("part a 1\nuse u r 0 1 0\n"), "{[{a 1}] [] [] [{u r 0 1 0}]} 0 0")
	want(t, "an empty line at the end", read("part a 1\n\n"), noGarage+"2 6")
	want(t, "only an end", read("\n"), noGarage+"1 6")
	want(t, "no end", read("part a 1"), noGarage+"1 6")
	want(t, "a mark ahead", read("\ufeffpart a 1\n"), noGarage+"1 6")
}

// TestI7WrongGarages has texts with all lines right, and of a garage that is not.
func TestI7WrongGarages(t *testing.T) {
	for _, c := range [][2]string{
		{"part a,b 1\n", "8"}, {"part \xff 1\n", "8"}, {"part a\tb 1\n", "8"}, {"slot s r/s\n", "8"}, {"part " + strings.Repeat("x", 61) + " 1\n", "8"}, {"use u r\r 0 1 0\n", "8"},
		{"part a 1000000001\n", "9"}, {"part a 999999999999\n", "9"}, {"part b 1\npart a 1\n", "10"}, {"slot a r\nslot a r\n", "10"},
		{"mount s a 0 5\n", "4"}, {"part a 1\nmount s a 0 5\n", "4"}, {"part a 1\nslot s r\nmount s a 0 0\n", "10"}, {"part a 1\nslot s r\nmount s a 999999999999 -\n", "9"}, {"part a 1\nslot s r\nmount s a 1 5\nmount s a 4 -\n", "11"},
		{"use u r 0 0 0\n", "9"}, {"use u r 0 1 999999999999\n", "9"}, {"use u r 0 1 0\nuse u r 1 1 0\n", "5"}, {"use v r 0 1 0\nuse u r 0 1 0\n", "10"},
		{strings.Repeat("part a 1\n", 501), "3"}, {strings.Repeat("slot a 1\n", 101), "3"}, {strings.Repeat("mount a 1 2 3\n", 2001), "3"}, {strings.Repeat("use a b 1 2 3\n", 5001), "3"},
	} {
		want(t, c[0][:min(len(c[0]), 100)], read(c[0]), noGarage+"0 "+c[1])
	}
	want(t, "a wrong line behind", read(strings.Repeat("part a 1\n", 501)+"part a\n"), noGarage+"502 6")
}

// longText has a garage whose text is just so long, which is more than all but its uses take, and its text.
func longText(long int) (api.Garage, string) {
	g := large()
	name := func(short string) string { return short + strings.Repeat("x", api.MaxName-len(short)) }
	for i := range g.Parts {
		g.Parts[i].Name = name(g.Parts[i].Name)
	}
	for i := range g.Slots {
		g.Slots[i] = slot(name(g.Slots[i].Name), name("r"))
	}
	for i, m := range g.Mounts {
		g.Mounts[i] = mount(name(m.Slot), name(m.Part), m.From+1_000_000_000, m.To+1_000_000_000)
	}
	for i, u := range g.Uses {
		g.Uses[i] = use(name(u.Name), name("r"), u.From+1_000_000_000, 1000, 1_000_000_000)
	}
	more := len(slowText(g)) - long
	for i := range g.Uses {
		cut := min(more, api.MaxName-1)
		g.Uses[i].Rig = g.Uses[i].Rig[cut:]
		more -= cut
	}
	return g, slowText(g)
}

func slowText(g api.Garage) string {
	var b strings.Builder
	for _, x := range g.Parts {
		fmt.Fprintf(&b, "part %s %d\n", x.Name, x.Cost)
	}
	for _, x := range g.Slots {
		fmt.Fprintf(&b, "slot %s %s\n", x.Name, x.Rig)
	}
	for _, x := range g.Mounts {
		fmt.Fprintf(&b, "mount %s %s %d %s\n", x.Slot, x.Part, x.From, strings.Replace(strconv.Itoa(x.To), "-1", "-", 1))
	}
	for _, x := range g.Uses {
		fmt.Fprintf(&b, "use %s %s %d %d %d\n", x.Name, x.Rig, x.From, x.Seconds, x.Way)
	}
	return b.String()
}

func TestI7Size(t *testing.T) {
	g, text := longText(1_000_000)
	want(t, "so long", told(len(text), gear.Check(g)), "1000000 0")
	printed, e := gear.Print(g)
	want(t, "as long as can be", told(printed == text, e), "true 0")
	back, line, e := gear.Read(text)
	want(t, "as long as can be, read", told(slowText(back) == text, line, e), "true 0 0")
	g, text = longText(1_000_001)
	want(t, "a byte more", told(len(text), gear.Check(g)), "1000001 0")
	want(t, "a byte more", told(gear.Print(g)), " 3")
	want(t, "a byte more, read", read(text), noGarage+"0 3")
	want(t, "too long, and wrong", read("x\n"+text), noGarage+"0 3")
	g.Uses[0].Way = -1
	want(t, "too long, and wrong", told(gear.Print(g)), " 9")
	want(t, "as many empty lines as can be", read(strings.Repeat("\n", 1_000_000)), noGarage+"1 6")
}

const whole = `(0|[1-9][0-9]{0,11})`

// lineForms has a form for each kind of line.
var lineForms = []*regexp.Regexp{
	regexp.MustCompile(`^part ([^ ]+) ` + whole + `$`),
	regexp.MustCompile(`^slot ([^ ]+) ([^ ]+)$`),
	regexp.MustCompile(`^mount ([^ ]+) ([^ ]+) ` + whole + ` (-|` + whole + `)$`),
	regexp.MustCompile(`^use ([^ ]+) ([^ ]+) ` + whole + ` ` + whole + ` ` + whole + `$`),
}

func numberOf(s string) int { n, _ := strconv.Atoi(s); return n }

// slowRead reads by whole lines.
func slowRead(text string) (g api.Garage, line int, e api.Errno) {
	lines := strings.SplitAfter(text, "\n")
	before := 0
	for i, x := range lines[:len(lines)-1] {
		form := slices.IndexFunc(lineForms, func(r *regexp.Regexp) bool { return r.MatchString(x[:len(x)-1]) })
		if form < before {
			return api.Garage{}, i + 1, api.ErrSyntax
		}
		before = form
		m := lineForms[form].FindStringSubmatch(x[:len(x)-1])
		switch form {
		case 0:
			g.Parts = append(g.Parts, part(m[1], numberOf(m[2])))
		case 1:
			g.Slots = append(g.Slots, slot(m[1], m[2]))
		case 2:
			to := -1
			if m[4] != "-" {
				to = numberOf(m[4])
			}
			g.Mounts = append(g.Mounts, mount(m[1], m[2], numberOf(m[3]), to))
		case 3:
			g.Uses = append(g.Uses, use(m[1], m[2], numberOf(m[3]), numberOf(m[4]), numberOf(m[5])))
		}
	}
	if lines[len(lines)-1] != "" {
		return api.Garage{}, len(lines), api.ErrSyntax
	}
	if e := slowCheck(g); e != api.OK {
		return api.Garage{}, 0, e
	}
	return g, 0, api.OK
}

// spoilText changes something of a text.
func spoilText(r *rand.Rand, s string) string {
	at := r.Intn(len(s) + 1)
	switch r.Intn(6) {
	case 0:
		return s[:at]
	case 1:
		return s[:at] + one(r, " ", "  ", "\n", "0", "1", "9", "-", "\t", "a", "\r", "ü", "part x 1\n", "slot x r\n", "use x r 1 1 1\n", " -") + s[at:]
	case 2:
		return s[:at] + s[min(at+1, len(s)):]
	}
	lines := strings.SplitAfter(s, "\n")
	from, to := r.Intn(len(lines)), r.Intn(len(lines))
	switch r.Intn(3) {
	case 0:
		lines[from], lines[to] = lines[to], lines[from]
	case 1:
		lines[from] = ""
	case 2:
		lines[from] = strings.Replace(lines[from], " ", one(r, "  ", "", "\n"), 1) + lines[to]
	}
	return strings.Join(lines, "")
}

func TestI7ReadWords(t *testing.T) {
	r := rand.New(rand.NewSource(104))
	seen := map[api.Errno]int{}
	for range 30000 {
		g, _ := randomGarage(r)
		text, _ := gear.Print(g)
		for range 1 + r.Intn(3) {
			text = spoilText(r, text)
		}
		got, line, e := gear.Read(text)
		seen[e]++
		want(t, text, told(got, line, e), told(slowRead(text)))
	}
	for _, e := range []api.Errno{api.OK, api.ErrSyntax, api.ErrRange, api.ErrNone, api.ErrTwice, api.ErrName, api.ErrOrder, api.ErrState} {
		if seen[e] < 5 {
			t.Error("not often: ", e, seen[e])
		}
	}
}
