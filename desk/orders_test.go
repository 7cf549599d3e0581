package desk_test

import (
	"fmt"
	"math/rand"
	"strings"
	"testing"

	"harrier/desk"
)

// givens returns lists of commands that give a desk all that belongs to it: the commands of a list belong together, and the lists are in any order.
func givens(r *rand.Rand) [][]string {
	var l [][]string
	add := func(commands ...string) { l = append(l, commands) }
	for _, name := range []string{"a", "b", "c", "d"} {
		text, _ := desk.PrintActivity(randomActivity(r, name))
		commands := []string{"activity\n" + text + ".\n"}
		for range r.Intn(5) {
			commands = append(commands, "edit "+name+" "+one(r, "shift 50", "shift -9", "tag x", "untag hill", "raise 7", "field 1", "field 2", "crop 0 30", "level 1", "fill 60", "lap 0 4 l", "unlap 0", "sport 3"))
		}
		add(append(commands, "rig "+name+" "+one(r, "bike", "shoes", "-"))...)
	}
	add("segment\nsegment s\ngate -50 200 -50 -200\ngate 50 200 50 -200\n.\n")
	add("workout\nworkout w\nstep on for 0:20 power 90-110%\nstep off for 0:10\n.\n")
	add("veil\n" + one(r, "friend place 0 0 90\n", "club name\n", "all grid 50\nfriend day\n") + ".\n")
	add("garage\npart p 0\npart q 0\nslot s bike\nslot t shoes\n.\n", fmt.Sprint("mount s p ", r.Intn(500)), fmt.Sprint("mount t q ", r.Intn(500)), fmt.Sprint("unmount t ", r.Intn(1_000)))
	add("season\nseason 9800 3 0\nsession easy 40 60 3\nsession fast 80 50 5 hard\n" + one(r, "apart 2\n", "off 1\n") + ".\n")
	add(fmt.Sprintf("athlete %d %d 300", 1+r.Intn(300), 6+r.Intn(150)))
	add(fmt.Sprint("clock ", r.Intn(800)))
	add("watch r1 many, sum load by " + one(r, "day", "week", "sport", "tag"))
	add("watch r2 mean way where " + one(r, "#x", "run or swim", "all"))
	add("badge b1 many 2 " + one(r, "#x", "all", "seconds 30..9999"))
	add("badge b2 sum way 300 all")
	add("badge b3 most " + one(r, "load", "climb", "weekday") + " 3 all")
	return l
}

// answers tells what a desk answers to commands that do not change it.
func answers(d *desk.Desk) string {
	s := ""
	for _, c := range strings.Split("list|show a|show b|show c|show d|summary a|summary b|summary c|summary d|board s|hold w a|hold w b|tiles 30|tiles 100|see 1 a|see 2 b|see 3 c|see 0 d|total 0|total 1|total 2|total 3|wear p|wear q|ask many, sum climb by tag|report r1|report r2|earned|form 0|form 30|plan", "|") {
		s += c + ":\n" + d.Do(c)
	}
	return s
}

// inAnyOrder does the commands of lists, each list in its order.
func inAnyOrder(r *rand.Rand, d *desk.Desk, lists [][]string, between func()) {
	lists = append([][]string{}, lists...)
	for len(lists) > 0 {
		k := r.Intn(len(lists))
		d.Do(lists[k][0])
		if lists[k] = lists[k][1:]; len(lists[k]) == 0 {
			lists = append(lists[:k], lists[k+1:]...)
		}
		between()
	}
}

// TestM5Orders gives two desks the same, in other orders, and asks one of them for more between.
func TestM5Orders(t *testing.T) {
	r := rand.New(rand.NewSource(134))
	seen := map[string]int{}
	for range 300 {
		l := givens(r)
		d, other := desk.New(), desk.New()
		inAnyOrder(r, d, l, func() {})
		inAnyOrder(r, other, l, func() {
			switch r.Intn(4) {
			case 0:
				other.Do(one(r, "list", "changed", "report r1", "earned", "form 3", "wear p", "total 2", "tiles 50", "plan", "x", "athlete 0 0 0", "clock 900", "drop e", "merge a a 0", "edit a name b", "mount s x 5", "watch r/ many", "badge b1 many 0 all"))
			case 1:
				// An edit that is taken back, if it was done at all.
				name := one(r, "a", "b", "c", "d")
				if other.Do("edit "+name+" "+one(r, "shift 7", "raise 1", "crop 1 5", "tag new")) == "ok\n" {
					other.Do("undo " + name)
				}
			case 2:
				other.Do("activity\nactivity e 2 5\nsample 0 0 0 0 - - -\nsample 50 500 0 0 100 100 100\n.\n")
				if r.Intn(2) == 0 {
					other.Do("list")
					other.Do("changed")
				}
				other.Do("drop e")
			}
		})
		want(t, fmt.Sprintf("%q", l), answers(other), answers(d))
		for _, x := range strings.Split(answers(d), "\n") {
			seen[x[:min(len(x), 5)]]++
		}
	}
	if seen["error"] > 500 || seen["error"] < 50 {
		t.Error("errors: ", seen["error"])
	}
}

// randomCommand is often right.
func randomCommand(r *rand.Rand) string {
	name := func() string { return one(r, "a", "b", "c", "d", "d", "e", "x/") }
	switch r.Intn(12) {
	case 0:
		text, _ := desk.PrintActivity(randomActivity(r, name()))
		return "activity\n" + text + ".\n"
	case 1, 2:
		return "edit " + name() + " " + one(r, "shift 50", "shift -500", "tag x", "tag x", "untag hill", "raise 7", "field 2", "crop 0 30", "lap 0 4 l", "unlap 0", "sport 3", "sport 9", "name b", "x", "level 99")
	case 3:
		return one(r, "undo ", "redo ") + name()
	case 4:
		return fmt.Sprint("merge ", name(), " ", name(), " ", r.Intn(200)-100)
	case 5:
		return "rig " + name() + " " + one(r, "bike", "shoes", "-", "x/")
	case 6:
		return one(r, "segment\nsegment s\ngate -50 200 -50 -200\ngate 50 200 50 -200\n.", "segment\nsegment s\ngate 0 0 0 1\n.", "segment\n.", "workout\nworkout w\nstep on for 0:20 power 90-110%\n.", "workout\nworkout w\n.", "workout\nworkout\n.")
	case 7:
		return one(r, "veil\nfriend place 0 0 90\n.", "veil\n.", "veil\nfriend x\n.", "garage\npart p 0\nslot s bike\n.", "garage\npart p 0\nslot s bike\nuse u bike 0 5 5\n.", "garage\nx\n.", "season\nseason 9800 2 0\nsession easy 40 60 3\n.", "season\n.", "season\nseason 0 0 0\n.")
	case 8:
		return one(r, "mount s p ", "unmount s ") + one(r, "0", "100", "200", "x", "999999999999")
	case 9:
		return one(r, "athlete 200 180 300", "athlete 250 5 300", "athlete 0 1 1", "athlete 250 150 300", "athlete 1 2", "clock 60", "clock 900", "clock x", "drop "+name(), "drop "+name(), "list", "earned", "form 1", "form 999999", "tiles 0", "see 4 a", "total 9")
	case 10:
		return one(r, "watch ", "watch x/") + one(r, "r1 ", "r2 ", "r3 ", "") + one(r, "many", "sum way by day", "mean load where run", "x")
	}
	return one(r, "changed", "changed", "badge b1 many 2 all", "badge b2 sum way 99 run", "badge b2 many 0 all", "badge b/ many 1 all", "badge b3 x", "report r1", "report r9")
}

// TestM4ErrorsChangeNothing does commands on two desks, on one of them but for those that have an error.
func TestM4ErrorsChangeNothing(t *testing.T) {
	r := rand.New(rand.NewSource(135))
	errors, others := 0, 0
	for range 400 {
		d, other := desk.New(), desk.New()
		session, all := "", ""
		for range 60 {
			c := randomCommand(r)
			answer := d.Do(c)
			session += strings.TrimSuffix(c, "\n") + "\n"
			all += answer
			if strings.HasPrefix(answer, "error") {
				errors++
				continue
			}
			others++
			want(t, session, other.Do(c), answer)
		}
		want(t, session, desk.Session(session), all)
		for _, c := range strings.Split("changed|undo a|undo b|undo c|undo d|undo d|undo d|redo d|redo c|changed|earned", "|") {
			want(t, session+c, d.Do(c), other.Do(c))
		}
		want(t, session, answers(d), answers(other))
	}
	if errors < 5000 || others < 5000 {
		t.Error(errors, others)
	}
}
