package desk_test

import (
	"fmt"
	"strings"
	"testing"

	"harrier/desk"
)

// talk does the commands of a text: `> ` stands ahead of each command, and `| ` ahead of the lines of its block; the other lines are the answers that are wanted.
func talk(t *testing.T, d *desk.Desk, text string) {
	t.Helper()
	command, wanted := "", ""
	answer := func() {
		t.Helper()
		if command != "" {
			want(t, command, d.Do(command), wanted)
		}
		command, wanted = "", ""
	}
	for _, line := range strings.Split(strings.Trim(text, "\n"), "\n") {
		if x, ok := strings.CutPrefix(line, "> "); ok {
			answer()
			command = x + "\n"
		} else if x, ok := strings.CutPrefix(line, "| "); ok {
			command += x + "\n"
		} else {
			wanted += line + "\n"
		}
	}
	answer()
}

// putAll puts activities that walk so fast, each with its name, sport and start.
func putAll(t *testing.T, d *desk.Desk, heads ...string) {
	t.Helper()
	for i, head := range heads {
		command := fmt.Sprintf("activity\nactivity %s\nsample 0 0 0 0 - - -\nsample 10 %d 0 0 - - -\n.\n", head, 100*(i+1))
		want(t, command, d.Do(command), "ok\n")
	}
}

func TestM4Activity(t *testing.T) {
	d := desk.New()
	talk(t, d, `
> list
ok
> activity
| activity b 1 100
| tag x
| lap 0 5 a lap
| sample 0 0 0 0 - - -
| sample 10 30 40 0 120 0 80
| .
ok
> activity
| activity a 2 100
| .
ok
> activity
| activity c 3 50
| .
ok
> list
c 50 0
a 100 0
b 100 0
ok
> show b
activity b 1 100
tag x
lap 0 5 a lap
sample 0 0 0 0 - - -
sample 10 30 40 0 120 0 80
ok
> show a
activity a 2 100
ok
> activity
| .
error 6
> activity
| activity a 2 100
| tag
| .
error 6
> activity
| activity a/b 2 100
| .
error 8
> activity
| activity a 6 100
| .
error 7
> activity
| activity a 1 100
| sample 1 0 0 0 - - -
| .
error 10
> activity
| activity a 1 100
| tag x
| tag a
| .
error 10
> show a
activity a 2 100
ok
> activity
| activity a 4 7
| .
ok
> show a
activity a 4 7
ok
> drop b
ok
> show b
error 4
> drop b
error 4
> list
a 7 0
c 50 0
ok
`)
}

// TestM4Replaced asks whether edits and the rig of what was there before are gone.
func TestM4Replaced(t *testing.T) {
	d := desk.New()
	putAll(t, d, "a 1 100", "b 1 200")
	talk(t, d, `
> garage
| part p 0
| slot s bike
| mount s p 0 -
| .
ok
> rig a bike
ok
> edit a shift 5
ok
> wear p
10 100 1
ok
> activity
| activity a 1 300
| sample 0 0 0 0 - - -
| sample 7 9 0 0 - - -
| .
ok
> wear p
0 0 0
ok
> undo a
no
> redo a
no
> list
b 200 0
a 300 0
ok
> drop a
ok
> rig b bike
ok
> drop b
ok
> activity
| activity b 1 100
| sample 0 0 0 0 - - -
| sample 7 9 0 0 - - -
| .
ok
> wear p
0 0 0
ok
`)
}

func TestM4Edit(t *testing.T) {
	d := desk.New()
	putAll(t, d, "a 1 100")
	talk(t, d, `
> edit a shift 5
ok
> edit a tag x
ok
> edit a lap 0 5 
ok
> edit a lap 5 10 the  end 
ok
> show a
activity a 1 105
tag x
lap 0 5 
lap 5 10 the  end 
sample 0 0 0 0 - - -
sample 10 100 0 0 - - -
ok
> edit a tag x
error 5
> edit a untag y
error 4
> edit a shift -106
error 9
> edit a lap 4 6 l
error 10
> edit a unlap 2
error 4
> edit a sport 6
error 7
> edit a level 51
error 9
> edit a crop 5 5
error 9
> edit a crop 5 11
error 9
> edit a name b
error 7
> edit a name a/b
error 8
> edit b name b
error 4
> edit b shift 5
error 4
> edit b sport 6
error 7
> edit b tag a/b
error 8
> edit b shift
error 6
> undo a
yes
> undo a
yes
> show a
activity a 1 105
tag x
sample 0 0 0 0 - - -
sample 10 100 0 0 - - -
ok
> redo a
yes
> edit a unlap 1
error 4
> redo a
yes
> redo a
no
> undo a
yes
> edit a sport 2
ok
> redo a
no
> show a
activity a 2 105
tag x
lap 0 5 
sample 0 0 0 0 - - -
sample 10 100 0 0 - - -
ok
> edit a crop 1 9
ok
> edit a raise -7
ok
> show a
activity a 2 106
tag x
lap 0 4 
sample 0 10 0 -7 - - -
sample 8 90 0 -7 - - -
ok
> undo a
yes
> undo a
yes
> undo a
yes
> undo a
yes
> undo a
yes
> undo a
yes
> undo a
no
> list
a 100 0
ok
> undo b
error 4
> redo b
error 4
`)
	for i := range 200 {
		want(t, "an edit", d.Do(fmt.Sprint("edit a shift ", 1+i%2)), "ok\n")
	}
	want(t, "one more", d.Do("edit a shift 1"), "error 3\n")
	want(t, "one more that is wrong", d.Do("edit a untag x"), "error 4\n")
	want(t, "a long one", d.Do("edit a lap 0 5 "+strings.Repeat("x", 100_000-9)), "error 8\n")
	want(t, "a longer one", d.Do("edit b lap 0 5 "+strings.Repeat("x", 100_000-8)), "error 3\n")
	want(t, "the start", d.Do("list"), "a 400 0\nok\n")
}

func TestM4Merge(t *testing.T) {
	d := desk.New()
	talk(t, d, `
> activity
| activity a 1 100
| tag x
| lap 0 10 l
| sample 0 0 0 0 - - -
| sample 10 100 0 0 150 - -
| .
ok
> activity
| activity b 1 100
| tag y
| lap 0 20 m
| sample 0 7 7 7 - - -
| sample 13 77 7 7 100 200 80
| sample 20 77 77 77 - - -
| .
ok
> activity
| activity c 2 100
| .
ok
> garage
| part p 0
| slot s bike
| slot t shoes
| mount s p 0 50
| mount t p 50 -
| .
ok
> rig a shoes
ok
> rig b bike
ok
> edit a shift 1
ok
> edit b shift 2
ok
> merge a a 0
error 5
> merge a c 0
error 7
> merge d a 0
error 4
> merge a d 0
error 4
> merge d d 0
error 4
> merge a b 999999999999
error 9
> merge a b 103
error 9
> merge c a 0
error 7
> list
c 100 0
a 101 0
b 102 0
ok
> merge a b 4
ok
> list
a 98 11
c 100 0
ok
> show a
activity a 1 98
tag x
tag y
lap 3 13 l
sample 0 7 7 7 - - -
sample 3 0 0 0 - - -
sample 13 100 0 0 150 200 80
sample 20 77 77 77 - - -
ok
> undo a
no
> redo a
no
> undo b
error 4
> wear p
20 189 1
ok
> activity
| activity e 1 1000
| sample 0 0 0 0 - - -
| .
ok
> merge a e -86399999999
error 9
> merge a e -
error 6
`)
	want(t, "a clock that is behind", d.Do("merge e a -100"), "ok\n")
	want(t, "both together", strings.Join(strings.Split(d.Do("show e"), "\n")[:5], ","), "activity e 1 198,tag x,tag y,sample 0 7 7 7 - - -,sample 3 0 0 0 - - -")
	want(t, "the first one stays without a rig", d.Do("wear p"), "0 0 0\nok\n")
}
