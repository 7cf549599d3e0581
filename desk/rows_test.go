package desk_test

import (
	"fmt"
	"strings"
	"testing"

	"harrier/desk"
)

// putSteady puts an activity with so many minutes of a power, from a moment on.
func putSteady(t *testing.T, d *desk.Desk, name string, sport, start, minutes, power int, tags ...string) {
	t.Helper()
	command := fmt.Sprintf("activity\nactivity %s %d %d\n", name, sport, start)
	for _, tag := range tags {
		command += "tag " + tag + "\n"
	}
	for i := range minutes + 1 {
		command += fmt.Sprintf("sample %d %d 0 %d 150 %d -\n", 60*i, 100*i, i%2*10, power)
	}
	want(t, name, d.Do(command+".\n"), "ok\n")
}

func TestM4Athlete(t *testing.T) {
	d := desk.New()
	putSteady(t, d, "a", 2, 0, 60, 250)
	putSteady(t, d, "b", 2, 0, 60, 500)
	talk(t, d, `
> list
a 0 100
b 0 400
ok
> athlete 500 180 300
ok
> list
a 0 25
b 0 100
ok
> athlete 0 180 300
error 9
> athlete 3001 180 300
error 9
> athlete 500 0 300
error 9
> athlete 500 301 300
error 9
> athlete 500 180 0
error 9
> athlete 500 180 36001
error 9
> list
a 0 25
b 0 100
ok
> edit a field 2
ok
> edit b field 2
ok
> list
a 0 6000
b 0 6000
ok
> athlete 500 200 300
ok
> list
a 0 3000
b 0 3000
ok
> athlete 3000 300 36000
ok
> list
a 0 0
b 0 0
ok
> undo a
yes
> athlete 1 6 1
ok
> list
a 0 10000
b 0 10000
ok
`)
}

func TestM4Summary(t *testing.T) {
	d := desk.New()
	putSteady(t, d, "a", 1, 3600, 1, 250)
	talk(t, d, `
> summary a
a 1 2000-01-03 01:00:00
time 1:00 moving 0:00
way 10 m up 10 down 0
pace -
load 1
pulse 150 150
power 250 250 250
best 5 250
best 60 250
ok
> clock 90
ok
> athlete 500 180 300
ok
> edit a field 1
ok
> edit a lap 0 60 a lap
ok
> summary a
a 1 2000-01-03 02:30:00
time 1:00 moving 0:00
way 10 m up 10 down 0
pace -
load 0
power 250 250 250
best 5 250
best 60 250
lap 1:00 10 m a lap
ok
> clock -60
ok
> summary a
a 1 2000-01-03 00:00:00
time 1:00 moving 0:00
way 10 m up 10 down 0
pace -
load 0
power 250 250 250
best 5 250
best 60 250
lap 1:00 10 m a lap
ok
> clock -61
ok
> summary a
error 9
> summary b
error 4
> show b
error 4
> clock 841
error 9
> clock -721
error 9
> summary a
error 9
> edit a shift 60
ok
> summary a
a 1 2000-01-03 00:00:00
time 1:00 moving 0:00
way 10 m up 10 down 0
pace -
load 0
power 250 250 250
best 5 250
best 60 250
lap 1:00 10 m a lap
ok
> clock 840
ok
> athlete 250 5 300
ok
> summary a
error 10
> clock 0
ok
> athlete 250 6 300
ok
> summary a
a 1 2000-01-03 01:01:00
time 1:00 moving 0:00
way 10 m up 10 down 0
pace -
load 1
power 250 250 250
best 5 250
best 60 250
lap 1:00 10 m a lap
ok
`)
}

func TestM4Ask(t *testing.T) {
	d := desk.New()
	talk(t, d, `
> ask many
ok
> ask many by tag
ok
`)
	putSteady(t, d, "c", 2, 86400*8, 60, 250, "race")
	putSteady(t, d, "a", 1, 86400*7, 10, 250)
	putSteady(t, d, "b", 1, 86400*8, 7, 250, "hill", "race")
	talk(t, d, `
> list
a 604800 16
b 691200 11
c 691200 100
ok
> ask many
0 - 3
ok
> ask   many ,sum   way
0 - 3 7700
ok
> ask mean load, many, mean seconds, least climb, most way, sum start
0 - 127/3 3 1540 40 6000 1987200
ok
> ask many, mean way by day
7 - 1 1000
8 - 2 3350
ok
> ask many by week
7 - 3
ok
> edit a shift 86400000
ok
> ask many by day
8 - 2
1007 - 1
ok
> undo a
yes
> ask sum load by sport
1 - 27
2 - 100
ok
> ask sum load, mean load by tag
0 hill 11 11
0 race 111 111/2
ok
> ask many where #swim
ok
> ask many where
error 6
> ask many by
error 6
> ask any
error 6
> ask 
error 6
> ask many where way 5..4
error 9
> ask many where #`+strings.Repeat("a", 61)+`
error 8
> ask `+strings.Repeat("many, ", 10)+`many
error 3
> ask many where name "b"
0 - 1
ok
> edit b shift -86400
ok
> drop a
ok
> ask many, sum load by day
7 - 1 11
8 - 1 100
ok
`)
	want(t, "a long query", d.Do("ask many"+strings.Repeat(" ", 9_996)), "0 - 2\nok\n")
	want(t, "a longer one", d.Do("ask many"+strings.Repeat(" ", 9_997)), "error 3\n")
}

// TestM5Changed has reports, and what changes them.
func TestM5Changed(t *testing.T) {
	d := desk.New()
	talk(t, d, `
> changed
ok
> report r
error 4
> watch runs many where run
ok
> watch all many
ok
> watch load sum load
ok
> report runs
ok
> changed
ok
`)
	putSteady(t, d, "a", 1, 0, 60, 250)
	talk(t, d, `
> changed
all
load
runs
ok
> changed
ok
> report all
0 - 1
ok
> report load
0 - 100
ok
> watch later many by day
ok
> changed
ok
> athlete 500 180 300
ok
> changed
load
ok
> edit a sport 2
ok
> edit a sport 1
ok
> changed
ok
> edit a sport 2
ok
> report runs
ok
> changed
runs
ok
> undo a
yes
> changed
runs
ok
> edit a shift 86400
ok
> watch last many by day
ok
> changed
later
ok
> drop a
ok
> changed
all
last
later
load
runs
ok
> changed
ok
`)
	putSteady(t, d, "b", 1, 0, 60, 250)
	putSteady(t, d, "c", 1, 0, 60, 250)
	talk(t, d, `
> report all
0 - 2
ok
> changed
all
last
later
load
runs
ok
> merge b c 0
ok
> changed
all
last
later
load
runs
ok
> rig b bike
ok
> changed
ok
> watch all many
error 5
> watch a/b many
error 8
> watch new many where
error 6
> watch new many where #`+strings.Repeat("a", 61)+`
error 8
> watch a/b any
error 6
> report new
error 4
> report a/b
error 4
> athlete 500 5 300
ok
> watch all many
error 10
> watch a/b many
error 10
> watch new many
error 10
> watch new any
error 6
> report new
error 10
> report all
error 10
> changed
error 10
> athlete 250 5 300
ok
> changed
error 10
> athlete 250 180 300
ok
> report new
error 4
> changed
load
ok
`)
	for i := range 44 {
		want(t, "watch", d.Do(fmt.Sprintf("watch x%d many", i)), "ok\n")
	}
	want(t, "one more", d.Do("watch new many"), "ok\n")
	for _, c := range [][2]string{{"watch new many", "error 5\n"}, {"watch newer many", "error 3\n"}, {"watch a/b many", "error 8\n"}, {"report newer", "error 4\n"}, {"report new", "0 - 1\nok\n"}} {
		want(t, c[0], d.Do(c[0]), c[1])
	}
}

func TestM4Badges(t *testing.T) {
	d := desk.New()
	talk(t, d, `
> earned
ok
> badge two many 2 all
ok
> badge row streak 3 run
ok
> badge far sum way 1000 all
ok
> badge high most climb 30 not #x
ok
> earned
ok
`)
	putSteady(t, d, "b", 1, 86400, 5, 250)
	putSteady(t, d, "a", 2, 86400, 2, 250)
	talk(t, d, `
> earned
high b 86400
two b 86400
ok
`)
	putSteady(t, d, "c", 1, 2*86400, 6, 250)
	putSteady(t, d, "d", 1, 3*86400, 1, 250)
	talk(t, d, `
> earned
high b 86400
two b 86400
far c 172800
row d 259200
ok
> edit b tag x
ok
> earned
two b 86400
far c 172800
high c 172800
row d 259200
ok
> drop c
ok
> earned
two b 86400
ok
> badge two many 1 all
error 5
> badge a/b many 1 all
error 8
> badge one many 0 all
error 9
> badge one many 1 #`+strings.Repeat("a", 61)+`
error 8
> badge one many 1 sport
error 6
> badge one many 1 
error 6
> badge a/b many 1 #
error 6
> badge one most start 86400 ride or swim
ok
> badge day sum day 2 all
ok
> badge seconds sum seconds 240 all
ok
> badge load most load 8 all
ok
> badge weekday most weekday 3 all
ok
> earned
one a 86400
day b 86400
load b 86400
seconds b 86400
two b 86400
weekday d 259200
ok
> athlete 3000 180 300
ok
> earned
one a 86400
day b 86400
seconds b 86400
two b 86400
weekday d 259200
ok
> athlete 3000 5 300
ok
> earned
error 10
> list
error 10
> ask many
error 10
> form 5
error 10
> ask any
error 6
> badge late many 1 all
ok
> athlete 3000 180 300
ok
> drop a
ok
> earned
late b 86400
seconds b 86400
day d 259200
two d 259200
weekday d 259200
ok
`)
	for i := range 40 {
		want(t, "badge", d.Do(fmt.Sprintf("badge x%d many 1 all", i)), "ok\n")
	}
	want(t, "one more", d.Do("badge more many 1 all"), "error 3\n")
	want(t, "one more that is wrong", d.Do("badge a/b many 1 all"), "error 3\n")
	want(t, "one more that can't be read", d.Do("badge more many 1 #"), "error 6\n")
	want(t, "earned", told(strings.Count(d.Do("earned"), "\n")), "46")
}

func TestM4Form(t *testing.T) {
	d := desk.New()
	talk(t, d, `
> form 5
0 0 0 0
ok
> form 999999
0 0 0 0
ok
> form 1000000
error 9
`)
	putSteady(t, d, "b", 1, 86400*100, 60, 250)
	talk(t, d, `
> form 100
100 2380 14285 0
ok
> form 101
0 2323 12244 -11905
ok
> form 99
0 0 0 0
ok
`)
	putSteady(t, d, "a", 1, 86400*102, 30, 250)
	putSteady(t, d, "c", 1, 86400*102+5, 30, 250)
	talk(t, d, `
> form 101
0 2323 12244 -11905
ok
> form 102
100 4648 24780 -9921
ok
> form 0
0 0 0 0
ok
> form 5099
0 0 0 0
ok
> form 5100
error 9
> edit a field 2
ok
> athlete 250 200 300
ok
> form 102
1550 39172 231923 -9921
ok
> undo a
yes
> athlete 25 180 300
ok
> form 102
10000 464987 2478133 -992063
ok
> athlete 24 180 300
ok
> form 102
error 3
> form 0
error 3
> athlete 25 180 300
ok
> edit c shift 431740800
ok
> form 102
5000 345939 1763847 -992063
ok
> form 5099
5000 119047 714285 0
ok
> form 5100
error 9
> edit c shift 86400
ok
> form 102
error 9
> form 5099
error 9
> form 101
error 9
> drop b
ok
> drop a
ok
> form 5100
5000 119047 714285 0
ok
> form 101
0 0 0 0
ok
> form 100
error 9
> list
c 440640005 5000
ok
> athlete 24 180 300
ok
`)
	// In the order of list the day that has too much comes ahead of the one that is too late, though its names come behind.
	putSteady(t, d, "x", 1, 86400*50, 60, 250)
	putSteady(t, d, "y", 1, 86400*50, 1, 250)
	talk(t, d, `
> form 50
error 3
> edit y shift 864000
ok
> form 50
error 9
> edit c shift -4752000
ok
> form 50
10000 238095 1428571 0
ok
`)
}

func TestM4Plan(t *testing.T) {
	d := desk.New()
	talk(t, d, `
> plan
error 4
> season
| season 9800 3 0
| session easy 40 60 3
| session fast 80 50 5 hard
| apart 2
| .
ok
> plan
fast easy fast
ok
> season
| season 9800 3 0
| session easy 40 60 3
| session fast 80 50 5 hard
| off 1
| apart 3
| .
ok
> plan
easy - fast
ok
> season
| season 9800 8 0
| session easy 40 60 3
| apart 3
| least 500
| off 3
| most 100
| .
ok
> plan
none 1
ok
> season
| season 9800 8 0
| session easy 100 60 3
| least 500
| apart 3
| most 300
| fixed 1
| .
ok
> plan
none 0 2
ok
> season
| session easy 100 60 3
| .
error 6
> season
| .
error 6
> season
| season 9800 15 0
| .
error 9
> plan
none 0 2
ok
> season
| season 9800 2 0
| .
ok
> plan
- -
ok
`)
}
