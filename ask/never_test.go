package ask_test

import (
	"fmt"
	"math/rand"
	"slices"
	"strings"
	"testing"

	"harrier/api"
	"harrier/ask"
)

// readCond reads a text that is right.
func readCond(t *testing.T, s string) api.Cond {
	t.Helper()
	c, at, e := ask.ReadCond(s)
	want(t, s, told(at, e), "0 0")
	return c
}

func TestL2Never(t *testing.T) {
	for _, c := range []struct {
		text string
		want bool
	}{
		{"all", false}, {"none", true}, {"not all", true}, {"not none", false}, {"none or all", false}, {"none and all", true},
		{"run", false}, {"run and ride", true}, {"not run and not ride and not swim and not walk", false}, {"not run and not ride and not swim and not walk and not ski", true}, {"run or not run", false}, {"run and not run", true}, {"run and not ride", false},
		{"#a and not #a", true}, {"#a and not #b", false}, {"#a and #b and #c and #d and not #e", false}, {"#a and not #A", false},
		{"way 0..10000000000000", false}, {"not way 0..10000000000000", true}, {"not way 0..9999999999999", false}, {"not way 1..10000000000000", false}, {"way -5..-1", true}, {"way -5..0", false}, {"way 10000000000001..10000000000002", true}, {"way 10000000000000..10000000000002", false},
		{"not climb 0..10000000000000", true}, {"not seconds 0..10000000000000", true}, {"not load 0..10000000000000", true}, {"not climb 0..9999999999999", false}, {"not seconds 0..9999999999999", false}, {"not load 0..9999999999999", false},
		{"way 5..9 and way 10..20", true}, {"way 5..10 and way 10..20", false}, {"way 5..9 and climb 10..20", false}, {"way 5..9 and not way 5..7 and not way 8..9", true}, {"way 5..9 and not way 5..7 and not way 9..9", false}, {"way 0..9 and not way 0..4 and not way 6..9 and not way 5..5", true},
		{"start 0..86399999999", false}, {"not start 0..86399999999", true}, {"not start 0..86399999998", false}, {"start 86400000000..86400000005", true}, {"start -5..-1", true}, {"not start 1..86399999999", false},
		{"day 0..999999", false}, {"not day 0..999999", true}, {"not day 0..999998", false}, {"day 1000000..1000005", true}, {"day -1..-1", true}, {"not day 1..999999", false}, {"day 1000000000000000..1000000000000000", true}, {"day -1000000000000000..1000000000000000 and run", false},
		{"not weekday 0..6", true}, {"weekday 7..9", true}, {"weekday -3..-1", true}, {"not weekday 0..5", false}, {"weekday 0..2 and weekday 2..4 and not weekday 2..2", true},
		{"start 0..86399 and day 0..0", false}, {"start 0..86399 and not day 0..0", true}, {"start 86400..86400 and day 0..0", true}, {"start 86399..86400 and not day 0..0 and not day 1..1", true}, {"day 5..5 and start 432000..518399", false}, {"day 5..5 and not start 432000..518399", true}, {"day 5..5 and not start 432001..518399", false}, {"day 5..5 and not start 432000..518398", false},
		{"day 0..0 and weekday 1..6", true}, {"day 0..1 and weekday 1..6", false}, {"day 0..6 and weekday 6..6", false}, {"day 0..5 and weekday 6..6", true}, {"day 7..12 and weekday 6..6", true}, {"day 7..13 and weekday 6..6", false}, {"day 3..8 and weekday 2..2", true}, {"day 3..9 and weekday 2..2", false},
		{"start 172800..172800 and weekday 2..2", false}, {"start 172799..172799 and weekday 2..2", true}, {"start 172800..259199 and not weekday 2..2", true}, {"start 172799..259199 and not weekday 2..2", false}, {"start 172800..259200 and not weekday 2..2", false}, {"start 5..518400 and weekday 6..6", false}, {"start 5..518399 and weekday 6..6", true},
		{"day 999999..999999 and weekday 0..0", false}, {"day 999999..999999 and weekday 1..6", true}, {"day 999998..999999 and weekday 1..6", false}, {"day 999998..999999 and weekday 6..6", false}, {"day 999998..1000005 and weekday 1..1", true}, {"start 86399999999..86399999999 and weekday 0..0", false}, {"day 999993..999998 and weekday 0..0", true},
		{"run and #a and way 1..1 and climb 2..2 and seconds 3..3 and load 4..4 and start 5..5", false}, {"(run or ride) and (swim or ride) and not ride", true}, {"(run or way 1..2) and (ride or way 3..4)", false}, {"(run or way 1..2) and (ride or way 3..4) and not way 1..4", true},
	} {
		want(t, c.text, told(ask.Never(readCond(t, c.text))), told(c.want, 0))
	}
}

func TestL2NeverFuel(t *testing.T) {
	ways := func(n int) []api.Cond { return many(n, func(i int) api.Cond { return field(3, 10*i, 10*i+5) }) }
	tags := func(n int) []api.Cond { return many(n, func(i int) api.Cond { return tag(fmt.Sprint("t", i)) }) }
	for _, c := range []struct {
		what string
		c    api.Cond
		want string
	}{
		{"12 parts that ask", anyOf(ways(12)...), "false 0"}, {"13 parts that ask", anyOf(ways(13)...), "false 12"}, {"12 tags", allOf(tags(12)...), "false 0"}, {"13 tags", allOf(tags(13)...), "false 12"},
		{"13 equal ones", allOf(many(13, func(int) api.Cond { return sport(1) })...), "false 12"}, {"12 of all kinds, and more that do not ask", allOf(append(append(ways(1), tags(10)...), sport(1), allOf(), not(not(anyOf(allOf()))))...), "false 0"},
		{"a name", has("a"), "false 12"}, {"a name within", allOf(anyOf(), not(has("a"))), "false 12"}, {"a name, and nothing holds", allOf(anyOf(), has("a")), "false 12"},
		{"99 that do not ask", allOf(many(99, func(int) api.Cond { return allOf() })...), "false 0"}, {"12 that can't be together", allOf(ways(12)...), "true 0"}, {"12 of which two can't be together", allOf(append(tags(11), not(tag("t3")))...), "true 0"},
		{"13 that ask, one of them wrong", anyOf(append(ways(12), sport(0))...), "false 7"},
	} {
		want(t, c.what, told(ask.Never(c.c)), c.want)
	}
}

// between is numbers, both ends included.
type between struct{ low, high int }

// cut leaves the numbers that are from low to high, or (without keep) those that are not.
func cut(l []between, low, high int, keep bool) (left []between) {
	for _, x := range l {
		for _, y := range []between{{x.low, min(x.high, low-1)}, {max(x.low, low), min(x.high, high)}, {max(x.low, high+1), x.high}} {
			isWithin := y.low >= low && y.high <= high
			if y.low <= y.high && isWithin == keep {
				left = append(left, y)
			}
		}
	}
	return left
}

// hasWeekday asks each day, or, where there are many of them, all weekdays.
func hasWeekday(x between, fits func(weekday int) bool) bool {
	for day := x.low / 86400; day <= min(x.high/86400, x.low/86400+6); day++ {
		if fits(day % 7) {
			return true
		}
	}
	return false
}

// canBe reports whether a row can be such that for each of the parts it is told whether it holds: a row has one sport, tags of any kind, and numbers between which nothing binds but day, start and weekday.
func canBe(asked []api.Cond, holds []bool) bool {
	sports := []between{{1, 5}}
	moments := []between{{0, api.MaxMoment}}
	numbers := map[int][]between{3: {{0, 1e13}}, 4: {{0, 1e13}}, 5: {{0, 1e13}}, 6: {{0, 1e13}}}
	tags := map[string]bool{}
	for i, x := range asked {
		keep := holds[i]
		switch {
		case x.Kind == api.CondSport:
			sports = cut(sports, x.Low, x.Low, keep)
		case x.Kind == api.CondTag:
			if was, ok := tags[x.Text]; ok && was != keep {
				return false
			}
			tags[x.Text] = keep
		case x.Field == api.FieldStart:
			moments = cut(moments, x.Low, x.High, keep)
		case x.Field == api.FieldDay:
			low, high := max(x.Low, -1), min(x.High, 1000000)
			if low > high {
				low, high = -9, -9
			}
			moments = cut(moments, low*86400, high*86400+86399, keep)
		case x.Field < api.FieldWeekday:
			numbers[x.Field] = cut(numbers[x.Field], x.Low, x.High, keep)
		}
	}
	for _, l := range numbers {
		if len(l) == 0 {
			return false
		}
	}
	fits := func(weekday int) bool {
		for i, x := range asked {
			if x.Kind == api.CondField && x.Field == api.FieldWeekday && (x.Low <= weekday && weekday <= x.High) != holds[i] {
				return false
			}
		}
		return true
	}
	return len(sports) > 0 && slices.ContainsFunc(moments, func(x between) bool { return hasWeekday(x, fits) })
}

// slowNever tries all answers to the parts that ask.
func slowNever(c api.Cond) bool {
	var asked []api.Cond
	for _, p := range partsOf(c, 0) {
		if p.Kind > api.CondNot {
			asked = append(asked, p.Cond)
		}
	}
	for n := range 1 << len(asked) {
		answers := many(len(asked), func(i int) bool { return n>>i&1 == 1 })
		if answered(c, &answers) && canBe(asked, many(len(asked), func(i int) bool { return n>>i&1 == 1 })) {
			return false
		}
	}
	return true
}

// answered takes the answers to the parts that ask, one after the other, and reports whether the condition holds.
func answered(c api.Cond, answers *[]bool) bool {
	if c.Kind > api.CondNot {
		yes := (*answers)[0]
		*answers = (*answers)[1:]
		return yes
	}
	count := 0
	for _, x := range c.Kids {
		if answered(x, answers) {
			count++
		}
	}
	return map[int]bool{api.CondAll: count == len(c.Kids), api.CondAny: count > 0, api.CondNot: count == 0}[c.Kind]
}

// narrowField asks for few numbers, so that two of them are often near each other.
func narrowField(r *rand.Rand) api.Cond {
	const day = api.DayLong
	n := one(r, 1, 1, 2, 2, 7, 7, 3, 4, 5, 6)
	low := one(r, -1, 0, 1, 2, 3, r.Intn(9))
	high := low + one(r, 0, 0, 1, 2, 5, 7)
	switch {
	case n == 1:
		low = one(r, 0, 1, 2, 5, 6, 7, 999998, 999999)*day + one(r, -1, 0, 0, 1)
		high = low + one(r, 0, 1, day-2, day-1, day, 2*day, 6*day, 7*day)
	case n == 2 && r.Intn(3) == 0:
		low = one(r, 999992, 999993, 999998, 999999, 1000000)
		high = low + r.Intn(3)
	case n > 2 && n < 7 && r.Intn(4) == 0:
		low = one(r, 9999999999999, 10000000000000, 10000000000001)
		high = low + r.Intn(2)
	case r.Intn(9) == 0:
		low, high = one(r, -1_000_000_000_000_000, 0, low), 1_000_000_000_000_000
	}
	return field(n, low, max(low, high))
}

// narrowCond asks at most so many times.
func narrowCond(r *rand.Rand, asks int) api.Cond {
	if asks > 1 {
		n := 1 + r.Intn(asks-1)
		c := one(r, allOf, allOf, allOf, anyOf)(narrowCond(r, n), narrowCond(r, asks-n))
		return one(r, c, c, c, not(c))
	}
	c := one(r, narrowField(r), narrowField(r), narrowField(r), sport(1+r.Intn(5)), tag(one(r, "a", "b")))
	return one(r, c, not(c))
}

func TestL2NeverRandom(t *testing.T) {
	r := rand.New(rand.NewSource(124))
	seen := map[bool]int{}
	for range 20000 {
		c := narrowCond(r, 1+r.Intn(7))
		never := slowNever(c)
		seen[never]++
		want(t, show(c), told(ask.Never(c)), told(never, 0))
	}
	if min(seen[true], seen[false]) < 2000 {
		t.Error("not often: ", seen)
	}
}

// TestL2NeverHolds asks rows for which a condition holds, and random ones for a condition that never does.
func TestL2NeverHolds(t *testing.T) {
	r := rand.New(rand.NewSource(125))
	for range 20000 {
		c, x := randomCond(r, r.Intn(4)), randomRow(r, "a")
		never, e := ask.Never(c)
		asks, names := 0, 0
		for _, p := range partsOf(c, 0) {
			if p.Kind > api.CondNot {
				asks++
			}
			if p.Kind == api.CondHas {
				names++
			}
		}
		want(t, show(c), told(e == api.ErrFuel), told(asks > 12 || names > 0))
		if holds, _ := ask.Holds(c, x); holds && never {
			t.Error(show(c), " holds for ", x)
		}
	}
}

// TestL2NeverMost has conditions that ask for as much as they can.
func TestL2NeverMost(t *testing.T) {
	for _, text := range []string{
		"start 1..2 and day 3..4 and weekday 5..6 and way 1..2 and climb 1..2 and seconds 1..2 and load 1..2 and run and #a and #b and #c and #d",
		"run and #a and #b and #c and #d and #e and #f and way 1..2 and climb 1..2 and seconds 1..2 and load 1..2 and start 5..900000 and none",
		"start 1..2 and start 3..4 and start 5..6 and start 100000..200000 and day 0..0 and day 2..5 and day 9..9 and day 100..200 and weekday 1..1 and weekday 2..3 and weekday 5..6 and weekday 0..4",
	} {
		c := readCond(t, text)
		want(t, text, told(ask.Never(c)), "true 0")
		want(t, "not "+text, told(ask.Never(not(c))), "false 0")
		c = readCond(t, strings.ReplaceAll(text, " and ", " or "))
		want(t, "with or", told(ask.Never(c)), "false 0")
	}
}
