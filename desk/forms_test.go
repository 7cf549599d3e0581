package desk_test

import (
	"fmt"
	"strings"
	"testing"

	"harrier/desk"
)

// busy returns a desk that has something of everything.
func busy(t *testing.T) *desk.Desk {
	t.Helper()
	d := desk.New()
	for _, c := range strings.Split(`activity|activity a 1 100|sample 0 -5 0 0 - 250 -|sample 10 105 0 0 - 250 -|.
activity|activity b 1 105|sample 0 -5 0 0 - 250 -|sample 10 105 0 0 - 250 -|.
segment|segment s|gate 0 10 0 -10|gate 100 10 100 -10|.
workout|workout w|step on for 0:10|.
veil|friend pulse|.
garage|part p 0|part q 0|slot l bike|.
season|season 9800 1 0|session easy 40 60 3|.
athlete 200 180 300
clock 60
rig a bike
mount l p 0
watch r many
badge e many 1 all
edit a tag x
edit a tag y
undo a`, "\n") {
		answer := d.Do(strings.ReplaceAll(c, "|", "\n"))
		if answer != "ok\n" && answer != "yes\n" {
			t.Errorf("%s: %q", c, answer)
		}
	}
	return d
}

// state tells all that a desk answers, but for what changes it.
func state(d *desk.Desk) string {
	s := ""
	for _, c := range []string{"list", "show a", "show b", "summary a", "summary b", "board s", "hold w a", "tiles 10", "see 1 a", "see 1 b", "total 1", "wear p", "ask many", "report r", "earned", "form 0", "plan"} {
		s += c + ":\n" + d.Do(c)
	}
	return s
}

// right has a command of each form, without its block.
const right = `athlete 200 180 300
clock 60
clock -60
drop a
edit a shift 5
undo a
redo a
merge a b 5
merge a b -5
rig a bike
rig a -
list
show a
summary a
board s
hold w a
tiles 10
see 1 a
total 1
mount l q 10
unmount l 10
wear p
ask many
watch q many
report r
changed
badge f many 1 all
badge f streak 1 all
badge f sum way 1 all
badge f most load 1 all
earned
form 5
plan`

// isText reports whether the word k of a command begins, or belongs to, a query or a condition: there blanks have no meaning.
func isText(words []string, k int) bool {
	switch {
	case words[0] == "ask":
		return k >= 1
	case words[0] == "watch":
		return k >= 2
	case words[0] == "badge" && (words[2] == "sum" || words[2] == "most"):
		return k >= 5
	}
	return words[0] == "badge" && k >= 4
}

func TestM4Right(t *testing.T) {
	for _, c := range strings.Split(right, "\n") {
		d := busy(t)
		if answer := d.Do(c); strings.HasPrefix(answer, "error") || !strings.HasSuffix(answer, "\n") {
			t.Errorf("%s: %q", c, answer)
		}
	}
}

// wrongForms returns commands that have not quite the form of one that is right.
func wrongForms(c string) []string {
	words := strings.Split(c, " ")
	with := func(k int, word string) string {
		l := append([]string{}, words...)
		l[k] = word
		return strings.Join(l, " ")
	}
	l := []string{" " + c, "\t" + c, c + " x", strings.ToUpper(c[:1]) + c[1:], "x" + c, c[1:], with(0, words[0]+"s"), with(0, words[0]+":")}
	last := len(words) - 1
	if !isText(words, last) {
		l = append(l, c+" ")
	}
	if last > 0 {
		l = append(l, strings.Join(words[:last], " "), strings.Join(words[:last], " ")+" ", words[0], words[0]+" ", with(0, words[0]+"\t"))
	}
	for k := 1; k <= last; k++ {
		if isText(words, k) {
			continue
		}
		l = append(l, with(k, ""), with(k, " "+words[k]), strings.Replace(c, " "+words[k], "\t"+words[k], 1))
		if strings.Trim(words[k], "-0123456789") == "" && words[k] != "-" {
			for _, n := range []string{"-", "01", "00", "-01", "1234567890123", "-1234567890123", "a", "+1", "1.0", "1e1", "0x1", "-0", "--1", "\u0661", "5-"} {
				l = append(l, with(k, n))
			}
			if words[0] != "clock" && words[0] != "merge" && words[0] != "edit" {
				l = append(l, with(k, "-1"))
			}
		}
	}
	return l
}

func TestM4WrongForms(t *testing.T) {
	for _, c := range strings.Split(right, "\n") {
		d := busy(t)
		before := state(d)
		for _, x := range wrongForms(c) {
			if got := d.Do(x); got != "error 6\n" {
				t.Errorf("%q: %q", x, got)
			}
		}
		want(t, c, state(d), before)
		want(t, c+", redo", d.Do("redo a")+d.Do("redo a"), "yes\nno\n")
	}
	d := busy(t)
	before := state(d)
	for _, x := range []string{"", " ", "x", "hello", ".", "ok", "error 6", "activity ", "activity a 1 100", "segment s", "workout w", "veil friend pulse", "garage part p", "season 1 1 1", "badge", "badge f", "badge f many", "badge f  many 1 all", "badge f least way 1 all", "badge f mean way 1 all", "badge f Many 1 all", "badge f many way 1 all", "badge f sum 1 all", "badge f sum sport 1 all", "badge f sum Way 1 all", "badge f most ways 1 all", "badge f sum  1 all", "badge f sum way all", "badge f streak 1", "badge f streak 1 ", "badge f streak 1 any", "badge f streak 1 way 5", "edit a", "edit a ", "edit a x", "edit a shift 5\x00", "edit a lap 0 5", "edit a drop b", "watch r2", "watch r2 ", "watch r2 x", "unwatch r", "merge a b", "merge a b c", "rig a", "rig a  ", "undo", "redo a b", "hold w", "hold w a x", "see a 1", "see 1", "total", "mount l p", "mount l 5 p", "unmount l p 10", "form", "form x", "form -1", "plan now", "list all", "changed r", "earned e"} {
		if got := d.Do(x); got != "error 6\n" {
			t.Errorf("%q: %q", x, got)
		}
	}
	want(t, "all of it", state(d), before)
}

// TestM4Names has words that are none of the names there are, and numbers that are too great.
func TestM4Names(t *testing.T) {
	d := busy(t)
	before := state(d)
	for _, c := range []string{"drop %s", "undo %s", "redo %s", "merge a %s 0", "merge %s a 0", "merge %s %[1]s 0", "rig %s bike", "rig %s -", "show %s", "summary %s", "board %s", "hold w %s", "hold %s a", "hold %s %[1]s", "see 1 %s", "see 9 %s", "mount %s p 5", "mount l %s 5", "unmount %s 5", "wear %s", "report %s", "edit %s shift 5", "edit %s name b"} {
		for _, name := range []string{"A", "aa", "-", "a/b", "\xff", "a\tb", "\u00e9", ".", "5", strings.Repeat("a", 61)} {
			x := fmt.Sprintf(c, name)
			want(t, x, d.Do(x), "error 4\n")
		}
	}
	for _, c := range []string{"rig a %s", "watch %s many", "badge %s many 1 all"} {
		for _, name := range []string{"a/b", "\xff", "a\tb", "\u00e9", strings.Repeat("a", 61)} {
			x := fmt.Sprintf(c, name)
			want(t, x, d.Do(x), "error 8\n")
		}
	}
	for _, c := range []string{"tiles %s", "see %s a", "total %s", "form %s", "mount l p %s", "unmount l %s", "athlete %s 1 1", "athlete 1 %s 1", "athlete 1 1 %s", "clock %s", "clock -%s", "merge a b %s", "merge a b -%s"} {
		x := fmt.Sprintf(c, "999999999999")
		want(t, x, d.Do(x), "error 9\n")
	}
	want(t, "nothing was changed", state(d), before)
	want(t, "a great number", d.Do("badge f sum start 999999999999 all"), "ok\n")
}

// TestM4Blanks has queries and conditions with blanks around them.
func TestM4Blanks(t *testing.T) {
	d := busy(t)
	for _, x := range []string{"watch r2  many", "watch r3 many ", "badge f many 1  all", "badge g many 1 all ", "badge h sum way 1  all "} {
		want(t, x, d.Do(x), "ok\n")
	}
	want(t, "ask", d.Do("ask  many  "), "0 - 2\nok\n")
	want(t, "reports", d.Do("report r2")+d.Do("report r3"), "0 - 2\nok\n0 - 2\nok\n")
}

// TestM4Many has as many activities, segments and workouts as a desk can have.
func TestM4Many(t *testing.T) {
	d := desk.New()
	blocks := map[string]string{
		"activity": "activity\nactivity %s 1 %d\n.\n",
		"segment":  "segment\nsegment %s\ngate 0 0 0 %d\ngate 0 0 0 1\n.\n",
		"workout":  "workout\nworkout %s\nstep on for %ds\n.\n",
	}
	for kind, block := range blocks {
		for i := range desk.MaxDesk {
			want(t, kind, d.Do(fmt.Sprintf(block, fmt.Sprint("x", i), 1+i)), "ok\n")
		}
		want(t, kind+", one more", d.Do(fmt.Sprintf(block, "y", 1)), "error 3\n")
		want(t, kind+", one more that is wrong", d.Do(fmt.Sprintf(block, "y/", 1)), "error 8\n")
		want(t, kind+", in the place of another one", d.Do(fmt.Sprintf(block, "x7", 2)), "ok\n")
	}
	want(t, "all of them", told(strings.Count(d.Do("list"), "\n")), "501")
	want(t, "the first ones", d.Do("list")[:len("x0 1 0\nx1 2 0\nx7 2 0\n")], "x0 1 0\nx1 2 0\nx7 2 0\n")
	want(t, "one less", d.Do("drop x3"), "ok\n")
	want(t, "another one", d.Do(fmt.Sprintf(blocks["activity"], "y", 1)), "ok\n")
	want(t, "one more", d.Do(fmt.Sprintf(blocks["activity"], "z", 1)), "error 3\n")
	want(t, "merged", d.Do("merge x0 x1 0"), "ok\n")
	want(t, "behind a merge", d.Do(fmt.Sprintf(blocks["activity"], "z", 1)), "ok\n")
	want(t, "one more again", d.Do(fmt.Sprintf(blocks["activity"], "zz", 1)), "error 3\n")
}
