package desk_test

import (
	"fmt"
	"math/rand"
	"strings"
	"testing"

	"harrier/api"
	"harrier/desk"
)

// commands tells what Commands returns, each command in quotes.
func commands(s string) string {
	l, e := desk.Commands(s)
	return fmt.Sprintf("%q %d", l, int(e))
}

func TestM3Commands(t *testing.T) {
	for _, c := range [][2]string{
		{"", `[] 0`},
		{"\n", `["\n"] 0`},
		{"\n\n", `["\n" "\n"] 0`},
		{"list", `["list\n"] 0`},
		{"list\n", `["list\n"] 0`},
		{"list\n\nlist", `["list\n" "\n" "list\n"] 0`},
		{"what is this?\n.\n..", `["what is this?\n" ".\n" "..\n"] 0`},
		{"veil\n.\n", `["veil\n.\n"] 0`},
		{"veil\n.", `["veil\n.\n"] 0`},
		{"veil\n.\n.\n", `["veil\n.\n" ".\n"] 0`},
		{"veil\n.x\n. \n .\n..\n\nx.\n.\n", `["veil\n.x\n. \n .\n..\n\nx.\n.\n"] 0`},
		{"veil\nveil\n.\n.\n", `["veil\nveil\n.\n" ".\n"] 0`},
		{"list\nveil\nlist\n.\nlist", `["list\n" "veil\nlist\n.\n" "list\n"] 0`},
		{"veil\n.\nveil\n.\n", `["veil\n.\n" "veil\n.\n"] 0`},
		{"veil ", `["veil \n"] 0`},
		{" veil", `[" veil\n"] 0`},
		{"veil x\n.\n", `["veil x\n" ".\n"] 0`},
		{"Veil\nveils\nvei\nveil\r\n", `["Veil\n" "veils\n" "vei\n" "veil\r\n"] 0`},
		{"activities\nathlete\nmount\nedit\n", `["activities\n" "athlete\n" "mount\n" "edit\n"] 0`},
		{"veil", `[] 2`},
		{"veil\n", `[] 2`},
		{"veil\nx\n", `[] 2`},
		{"veil\n..", `[] 2`},
		{"veil\n.\r\n", `[] 2`},
		{"veil\nx.\n", `[] 2`},
		{"list\nveil\n.\nveil\nlist\n", `[] 2`},
	} {
		want(t, c[0], commands(c[0]), c[1])
	}
	for _, word := range []string{"activity", "segment", "workout", "veil", "garage", "season"} {
		want(t, word, commands("x\n"+word+"\na\n\n"+word+"\n.\nb"), fmt.Sprintf(`["x\n" "%s\na\n\n%s\n.\n" "b\n"] 0`, word, word))
		want(t, word+", with more", commands(word+" a\nb\n.\n"), fmt.Sprintf(`["%s a\n" "b\n" ".\n"] 0`, word))
		want(t, word+", without an end", commands("a\n"+word+"\nb"), "[] 2")
	}
}

func TestM3Sizes(t *testing.T) {
	many := func(s string) string {
		l, e := desk.Commands(s)
		return told(len(l), len(strings.Join(l, "")), e)
	}
	long := strings.Repeat("x", desk.MaxInput)
	want(t, "the longest text", many(long[1:]+"\n"), "1 8000000 0")
	want(t, "the longest one without an end", many(long[1:]), "1 8000000 0")
	want(t, "one more without an end", many(long), "0 0 3")
	want(t, "one more", many(long+"\n"), "0 0 3")
	want(t, "one more, with an end of its own", many("\n"+long[1:]), "0 0 3")
	want(t, "a block", many("veil\n"+long[8:]+"\n.\n"), "1 8000000 0")
	want(t, "a longer block", many("veil\n"+long[7:]+"\n.\n"), "0 0 3")
	want(t, "a longer block without an end", many("veil\n"+long), "0 0 3")
	want(t, "a block without an end", many("veil\n"+long[6:]), "0 0 2")
	lines := strings.Repeat("\n", desk.MaxLines)
	want(t, "many lines", many(lines), "200000 200000 0")
	want(t, "many lines, the last one without an end", many(lines[1:]+"x"), "200000 200001 0")
	want(t, "one more line", many(lines+"\n"), "0 0 3")
	want(t, "one more line without an end", many(lines+"x"), "0 0 3")
	want(t, "many lines of a block", many("veil\n"+lines[2:]+".\n"), "1 200005 0")
	want(t, "more lines of a block", many("veil\n"+lines[1:]+".\n"), "0 0 3")
	want(t, "more lines of a block without an end", many("veil\n"+lines), "0 0 3")
	want(t, "lines of a block without an end", many("veil\n"+lines[1:]), "0 0 2")
	want(t, "a long session", desk.Session(long), "error 3\n")
	want(t, "many commands", desk.Session(lines), strings.Repeat("error 6\n", desk.MaxLines))
	want(t, "more commands", desk.Session(lines+"list"), "error 3\n")
}

// TestM3Divided has random texts: commands put together are the text, and each of them is one.
func TestM3Divided(t *testing.T) {
	r := rand.New(rand.NewSource(133))
	seen := map[api.Errno]int{}
	for range 20_000 {
		text := ""
		for range r.Intn(12) {
			text += one(r, "veil", "season", ".", "..", "", "list", "veil ", "activity") + "\n"
		}
		wanted := slowCommands(text)
		if r.Intn(2) == 0 && !strings.HasSuffix(text, "\n\n") && text != "\n" {
			text = strings.TrimSuffix(text, "\n")
		}
		got := commands(text)
		want(t, text, got, wanted)
		l, e := desk.Commands(text)
		seen[e]++
		for _, x := range l {
			want(t, x, commands(x), fmt.Sprintf("[%q] 0", x))
		}
	}
	if seen[0] < 1000 || seen[api.ErrForm] < 1000 {
		t.Error(seen)
	}
}

// slowCommands goes through lines, which all have an end.
func slowCommands(text string) string {
	lines := strings.SplitAfter(text, "\n")
	lines = lines[:len(lines)-1]
	var l []string
	open := false
	for _, x := range lines {
		if open {
			l[len(l)-1] += x
			open = x != ".\n"
		} else {
			l = append(l, x)
			open = x == "veil\n" || x == "season\n" || x == "activity\n"
		}
	}
	if open {
		return "[] 2"
	}
	return fmt.Sprintf("%q 0", l)
}

const walk = "activity\nactivity a 1 100\nsample 0 0 0 0 - - -\nsample 10 30 40 0 - - -\n.\n"

func TestM3Do(t *testing.T) {
	for _, c := range [][2]string{
		{"", "error 6\n"},
		{"\n", "error 6\n"},
		{"list", "ok\n"},
		{"list\n", "ok\n"},
		{"list\n\n", "error 6\n"},
		{"\nlist", "error 6\n"},
		{"list\nlist", "error 6\n"},
		{"list\nlist\n", "error 6\n"},
		{".", "error 6\n"},
		{walk, "ok\n"},
		{strings.TrimSuffix(walk, "\n"), "ok\n"},
		{walk + "list", "error 6\n"},
		{walk + "\n", "error 6\n"},
		{strings.TrimSuffix(walk, ".\n"), "error 6\n"},
		{"veil", "error 6\n"},
		{"veil\n", "error 6\n"},
		{"list\r\n", "error 6\n"},
		{strings.Repeat("x", desk.MaxInput), "error 6\n"},
		{"veil\n" + strings.Repeat("\n", desk.MaxLines) + ".\n", "error 6\n"},
	} {
		d := desk.New()
		want(t, c[0][:min(len(c[0]), 100)], d.Do(c[0]), c[1])
	}
}

func TestM3Session(t *testing.T) {
	want(t, "the example", desk.Session("athlete 200 180 300\n"+walk+"list"), "ok\nok\na 100 0\nok\n")
	want(t, "nothing", desk.Session(""), "")
	want(t, "an empty line", desk.Session("\n"), "error 6\n")
	want(t, "errors between", desk.Session("undo a\n"+walk+"undo a\nx\nlist\n"), "error 4\nok\nno\nerror 6\na 100 0\nok\n")
	want(t, "a block without an end", desk.Session(walk+"list\nveil\n"), "error 2\n")
	want(t, "each one on a new desk", desk.Session("list"), "ok\n")
	d := desk.New()
	want(t, "a desk", d.Do(walk)+d.Do("list"), "ok\na 100 0\nok\n")
	want(t, "another one", desk.New().Do("list"), "ok\n")
}
