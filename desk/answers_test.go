package desk_test

import (
	"fmt"
	"strings"
	"testing"

	"harrier/desk"
)

// east goes from X -5 to X 105 at Y 0, so many decimetres in a second.
func east(name string, start, speed int) string {
	return fmt.Sprintf("activity\nactivity %s 1 %d\nsample 0 -5 0 0 - - -\nsample %d 105 0 0 - - -\n.\n", name, start, 110/speed)
}

func TestM4Board(t *testing.T) {
	d := desk.New()
	talk(t, d, `
> board s
error 4
> segment
| segment s
| gate 0 10 0 -10
| gate 100 10 100 -10
| .
ok
> board s
ok
> segment
| segment back
| gate 100 -10 100 10
| gate 0 -10 0 10
| .
ok
> segment
| segment twice
| gate 0 10 0 -10
| gate 0 20 0 -20
| .
ok
`)
	for _, c := range []string{east("slow", 0, 5), east("b", 500, 10), east("c", 400, 10), east("a", 500, 10), east("fast", 900, 55), "activity\nactivity none 1 0\n.\n"} {
		want(t, c, d.Do(c), "ok\n")
	}
	talk(t, d, `
> board s
1 fast 1819
2 c 10000
2 a 10000
2 b 10000
5 slow 20000
ok
> board back
ok
> board twice
1 slow 1
1 c 1
1 a 1
1 b 1
1 fast 1
ok
> edit a crop 1 11
ok
> board s
1 fast 1819
2 c 10000
2 b 10000
4 slow 20000
ok
> undo a
yes
> edit a shift -200
ok
> board s
1 fast 1819
2 a 10000
2 c 10000
2 b 10000
5 slow 20000
ok
> activity
| activity again 1 0
| sample 0 -5 0 0 - - -
| sample 11 105 0 0 - - -
| sample 20 105 50 0 - - -
| sample 30 -5 50 0 - - -
| sample 40 -5 0 0 - - -
| sample 45 105 0 0 - - -
| .
ok
> board s
1 fast 1819
2 again 4545
3 a 10000
3 c 10000
3 b 10000
6 slow 20000
ok
> board x
error 4
> segment
| segment s
| gate 0 10 0 -10
| .
error 3
> segment
| segment s
| gate 0 10 0 -10
| gate 0 10 0
| .
error 6
> segment
| segment s
| gate 50 10 50 -10
| gate 100 10 100 -10
| .
ok
> drop again
ok
> board s
1 fast 909
2 a 5000
2 c 5000
2 b 5000
5 slow 10000
ok
`)
}

func TestM4Hold(t *testing.T) {
	d := desk.New()
	talk(t, d, `
> workout
| workout w
| repeat 2
|   step on for 0:10 power 90-110%
|   step off for 0:05 # rest
| end
| .
ok
> activity
| activity a 2 0
| sample 0 0 0 0 - 180 -
| sample 10 0 0 0 - 0 -
| sample 16 0 0 0 - 220 -
| sample 26 0 0 0 - 500 -
| sample 31 0 0 0 - - -
| .
ok
> hold w a
2320 0 1 16 26
ok
> athlete 200 180 300
ok
> hold w a
100 0 10 16 26
ok
> hold a w
error 4
> hold w b
error 4
> hold x a
error 4
> hold w w
error 4
> edit a crop 0 5
ok
> hold w a
2500 0 1 2 3
ok
> edit a crop 0 3
ok
> hold w a
error 4
> workout
| workout w
| step on for 0:05 pulse 100
| .
ok
> hold w a
3200 0
ok
> workout
| workout w
| step on for 0:05 pulse
| .
error 6
> workout
| .
error 6
> workout
| workout w/
| step on for 0:05
| .
error 8
> workout
| workout w
| .
error 13
> hold w a
3200 0
ok
> workout
| workout long
| step on for 999:59:59
| .
ok
> hold long a
error 3
`)
	want(t, "a long text", d.Do("workout\nworkout w\nstep a for 0:05\n#"+strings.Repeat("x", 20_000)+"\n.\n"), "error 3\n")
	want(t, "as before", d.Do("hold w a"), "3200 0\nok\n")
}

func TestM4Tiles(t *testing.T) {
	d := desk.New()
	talk(t, d, `
> tiles 10
0 0 0
ok
> tiles 0
0 0 0
ok
> activity
| activity b 1 0
| sample 0 0 0 0 - - -
| sample 10 40 0 0 - - -
| sample 20 40 10 0 - - -
| sample 30 0 10 0 - - -
| sample 40 0 20 0 - - -
| sample 50 40 20 0 - - -
| .
ok
> tiles 10
15 3 3
ok
> activity
| activity a 2 0
| sample 0 5 -5 0 - - -
| sample 10 45 -5 0 - - -
| sample 20 45 5 0 - - -
| .
ok
> tiles 10
20 4 6
ok
> tiles 1000
2 1 0
ok
> tiles 0
error 9
> tiles 10000001
error 9
> tiles 10000000
2 1 0
ok
> edit a raise 5
ok
> edit a crop 0 1
ok
> tiles 10
16 3 3
ok
> drop b
ok
> tiles 10
1 1 0
ok
`)
}

// TestM4ManyTiles has activities each of which has not too many tiles, but all of them together.
func TestM4ManyTiles(t *testing.T) {
	d := desk.New()
	row := func(name string, y, from, to int) {
		command := fmt.Sprintf("activity\nactivity %s 1 0\nsample 0 %d %d 0 - - -\nsample 10 %d %d 0 - - -\n.\n", name, from, y, to, y)
		want(t, command, d.Do(command), "ok\n")
	}
	row("a", 0, 1, 60_000)
	row("b", 0, 50_001, 99_999)
	want(t, "nearly", d.Do("tiles 1"), "99999 1 0\nok\n")
	row("c", 5, 7, 7)
	want(t, "just as many", d.Do("tiles 1"), "100000 1 0\nok\n")
	row("d", 5, 8, 8)
	want(t, "one more", d.Do("tiles 1"), "error 3\n")
	want(t, "greater ones", d.Do("tiles 2"), "50002 1 0\nok\n")
	d = desk.New()
	row("a", 0, 0, 100_000)
	want(t, "one activity", d.Do("tiles 1"), "error 3\n")
	want(t, "without a side", d.Do("tiles 0"), "error 9\n")
}

func TestM4Veil(t *testing.T) {
	d := desk.New()
	talk(t, d, `
> activity
| activity b 1 100
| tag t
| sample 0 0 0 0 - - -
| sample 50 100 0 20 - - -
| sample 100 200 0 0 - - -
| sample 130 300 0 30 - - -
| .
ok
> activity
| activity a 2 1000
| sample 0 0 0 0 - - -
| sample 10 30 40 0 - - -
| .
ok
> see 3 b
b 100 130
ok
> total 3
2 350 50 140
ok
> veil
| friend place 100 0 5
| all sport 2
| club name
| .
ok
> see 0 b
b 100 130
ok
> see 1 b
b 100 0
b 200 30
ok
> see 2 b
activity 100 0
activity 200 30
ok
> see 2 a
activity 1000 10
ok
> see 3 a
ok
> see 4 b
error 9
> see 4 c
error 4
> see 0 c
error 4
> total 0
2 350 50 140
ok
> total 1
3 150 30 40
ok
> total 3
2 100 30 30
ok
> total 4
error 9
> edit b crop 100 130
ok
> see 1 b
b 200 30
ok
> total 1
2 150 30 40
ok
> veil
| friend
| .
error 6
> veil
| friend sport 9
| .
error 7
> veil
| friend grid 0
| .
error 9
> see 3 a
ok
> veil
| .
ok
> see 3 a
a 1000 10
ok
> drop a
ok
> drop b
ok
> total 3
0 0 0 0
ok
> total 4
error 9
`)
}

// TestM4New asks for the athlete and the zone that a desk has at first.
func TestM4New(t *testing.T) {
	d := desk.New()
	want(t, "a", d.Do("activity\nactivity a 1 0\nsample 0 0 0 0 180 250 -\nsample 60 0 0 0 180 250 -\n.\n"), "ok\n")
	want(t, "b", d.Do("activity\nactivity b 1 0\nsample 0 0 0 0 - - -\nsample 300 0 0 0 - - -\n.\n"), "ok\n")
	talk(t, d, `
> workout
| workout power
| step on for 1:00 power 100%
| .
ok
> workout
| workout pulse
| step on for 1:00 pulse 100%
| .
ok
> workout
| workout pace
| step on over 1km
| .
ok
> hold power a
0 0
ok
> hold pulse a
0 0
ok
> hold pace b
0 0
ok
> summary b
b 1 2000-01-03 00:00:00
time 5:00 moving 0:00
way 0 m up 0 down 0
pace -
load 0
ok
> plan
error 4
> see 3 a
a 0 60
ok
`)
}

func TestM4Garage(t *testing.T) {
	d := desk.New()
	putAll(t, d, "a 1 100", "b 1 200", "c 1 300")
	talk(t, d, `
> mount s p 0
error 4
> unmount s 0
error 4
> wear p
error 4
> garage
| part p 5
| part q 6
| slot s bike
| slot t bike
| slot u shoes
| .
ok
> wear p
0 0 0
ok
> wear s
error 4
> mount s p 105
ok
> mount s p 150
error 5
> mount s r 150
error 4
> mount r p 150
error 4
> mount s p 86400000000
error 9
> unmount t 150
error 13
> unmount r 150
error 4
> unmount s 86400000000
error 9
> wear p
0 0 0
ok
> rig a bike
ok
> rig b bike
ok
> rig c shoes
ok
> wear p
15 250 2
ok
> mount u p 205
ok
> wear p
20 450 3
ok
> mount s q 203
ok
> wear q
7 140 1
ok
> unmount s 206
ok
> wear q
3 60 1
ok
> rig c bike
ok
> wear p
8 110 2
ok
> rig c shoes
ok
> rig d bike
error 4
> rig d a/b
error 4
> rig d -
error 4
> rig a a/b
error 8
> rig a shoes
ok
> wear p
13 360 2
ok
> rig a -
ok
> wear p
13 360 2
ok
> rig a -
ok
> edit c crop 0 5
ok
> wear p
8 210 2
ok
> edit b crop 4 10
ok
> wear p
5 150 1
ok
> garage
| part p 5
| slot s bike
| mount s p 0 -
| use x bike 0 10 10
| .
error 11
> garage
| use x bike 0 0 10
| .
error 9
> garage
| part p
| .
error 6
> garage
| part p 5
| part p 5
| .
error 10
> wear p
5 150 1
ok
> garage
| .
ok
> wear p
error 4
`)
}

// TestM4Wear has activities whose uses are at the edges.
func TestM4Wear(t *testing.T) {
	d := desk.New()
	putAll(t, d, "a 1 0", "b 1 86399999989", "c 1 500")
	talk(t, d, `
> garage
| part p 5
| part q 5
| slot s bike
| slot t -
| mount s p 0 -
| mount t q 0 -
| .
ok
> rig a bike
ok
> wear p
10 100 1
ok
> rig b bike
ok
> wear p
20 300 2
ok
> edit b crop 9 10
ok
> wear p
11 120 2
ok
> rig c -
ok
> wear q
0 0 0
ok
> activity
| activity d 1 0
| sample 0 0 0 0 - - -
| .
ok
> activity
| activity e 1 0
| .
ok
> rig d bike
ok
> rig e bike
ok
> wear p
11 120 2
ok
> activity
| activity far 1 0
| sample 0 -100000000 0 0 - - -
| sample 1 100000000 0 0 - - -
| sample 2 -100000000 0 0 - - -
| sample 3 100000000 0 0 - - -
| sample 4 -100000000 0 0 - - -
| sample 5 100000000 0 0 - - -
| sample 6 99999999 0 0 - - -
| .
ok
> wear p
11 120 2
ok
> rig far boat
ok
> wear p
error 9
> edit far crop 0 5
ok
> wear p
11 120 2
ok
> rig far bike
ok
> wear p
16 1000000120 3
ok
`)
}
