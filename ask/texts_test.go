package ask_test

import (
	"fmt"
	"math/rand"
	"regexp"
	"slices"
	"strconv"
	"strings"
	"testing"

	"harrier/api"
	"harrier/ask"
)

// condTexts has conditions as PrintCond writes them.
var condTexts = []struct {
	c    api.Cond
	text string
}{
	{allOf(), "all"}, {anyOf(), "none"}, {not(allOf()), "not all"}, {not(anyOf()), "not none"}, {not(not(allOf())), "not not all"},
	{sport(1), "run"}, {sport(2), "ride"}, {sport(3), "swim"}, {sport(4), "walk"}, {sport(5), "ski"},
	{tag("a"), "#a"}, {tag("-._9Z"), "#-._9Z"}, {tag("and"), "#and"}, {tag("a..b"), "#a..b"}, {tag(strings.Repeat("x", 60)), "#" + strings.Repeat("x", 60)},
	{has("a b"), `name "a b"`}, {has(`"`), `name "\""`}, {has(`\`), `name "\\"`}, {has(`a\"b`), `name "a\\\"b"`}, {has(`\\`), `name "\\\\"`}, {has(" ~"), `name " ~"`}, {has("and (not #x"), `name "and (not #x"`},
	{field(1, 0, 5), "start 0..5"}, {field(2, -5, 5), "day -5..5"}, {field(3, 7, 7), "way 7..7"}, {field(4, -7, -5), "climb -7..-5"}, {field(5, 10, 100), "seconds 10..100"}, {field(6, -1e15, 1e15), "load -1000000000000000..1000000000000000"}, {field(7, 0, 6), "weekday 0..6"},
	{allOf(sport(1)), "all run"}, {anyOf(sport(1)), "any run"}, {allOf(not(sport(1))), "all not run"}, {anyOf(allOf()), "any all"}, {allOf(allOf()), "all all"}, {allOf(anyOf()), "all none"}, {anyOf(anyOf()), "any none"},
	{allOf(sport(1), tag("a")), "run and #a"}, {anyOf(sport(1), tag("a"), field(3, 5, 6)), "run or #a or way 5..6"}, {allOf(allOf(), anyOf(), allOf()), "all and none and all"}, {allOf(not(sport(1)), not(allOf())), "not run and not all"},
	{not(allOf(sport(1), sport(2))), "not (run and ride)"}, {not(anyOf(sport(1), sport(2))), "not (run or ride)"}, {not(allOf(sport(1))), "not (all run)"}, {not(not(anyOf(sport(1)))), "not not (any run)"},
	{allOf(anyOf(sport(1), sport(2)), sport(3)), "(run or ride) and swim"}, {anyOf(allOf(sport(1), sport(2)), sport(3)), "(run and ride) or swim"}, {allOf(sport(1), allOf(sport(2), sport(3))), "run and (ride and swim)"}, {anyOf(anyOf(sport(1), sport(2)), sport(3)), "(run or ride) or swim"},
	{allOf(allOf(sport(1))), "all (all run)"}, {allOf(anyOf(sport(1))), "all (any run)"}, {anyOf(allOf(sport(1), sport(2))), "any (run and ride)"}, {allOf(sport(1), anyOf(sport(2))), "run and (any ride)"}, {anyOf(allOf(allOf(anyOf(not(anyOf(allOf(), tag("x"))))))), "any (all (all (any not (all or #x))))"},
}

func TestL4Print(t *testing.T) {
	for _, c := range condTexts {
		want(t, c.text, told(ask.PrintCond(c.c)), c.text+" 0")
		want(t, c.text, told(ask.ReadCond(c.text)), told(c.c, 0, 0))
		want(t, "in brackets "+c.text, told(ask.ReadCond("("+c.text+")")), told(c.c, 0, 0))
		want(t, "with blanks "+c.text, told(ask.ReadCond("  ( (  "+c.text+" )   ) ")), told(c.c, 0, 0))
	}
	want(t, "a wrong one", told(ask.PrintCond(allOf(has("ä")))), " 2")
}

// quotes makes a condition whose text has 10,000 bytes, and some more.
func quotes(more int) api.Cond {
	kids := many(75, func(int) api.Cond { return has(strings.Repeat(`"`, 60)) }) // 75 * 127 + 74 * 5 bytes
	kids = append(kids, has(strings.Repeat("a", 53)), has(strings.Repeat("a", 28+more)))
	return allOf(kids...)
}

func TestL4Size(t *testing.T) {
	text, e := ask.PrintCond(quotes(0))
	want(t, "as long as can be", told(len(text), e), "10000 0")
	want(t, "read", told(ask.ReadCond(text)), told(quotes(0), 0, 0))
	want(t, "a blank more", told(ask.ReadCond(text+" ")), told(api.Cond{}, 0, 3))
	want(t, "one byte more", told(ask.PrintCond(quotes(1))), " 3")
	want(t, "too long, and wrong", told(ask.ReadCond(strings.Repeat("?", 10001))), told(api.Cond{}, 0, 3))
	want(t, "as long as can be, and wrong", told(ask.ReadCond(strings.Repeat("?", 10000))), told(api.Cond{}, 0, 6))
	want(t, "blanks", told(ask.ReadCond(strings.Repeat(" ", 10000))), told(api.Cond{}, 10000, 6))
	want(t, "many brackets", told(ask.ReadCond(strings.Repeat("(", 10000))), told(api.Cond{}, 50, 6))
	q := api.Query{Where: quotes(-len("many where  by day")), Group: 1, Tells: tells(1, 0)}
	text, e = ask.PrintQuery(q)
	want(t, "a query as long as can be", told(len(text), e), "10000 0")
	want(t, "read", told(ask.ReadQuery(text)), told(q, 0, 0))
	want(t, "a blank more", told(ask.ReadQuery(" "+text)), told(api.Query{}, 0, 3))
	q.Group = 2
	want(t, "one byte more", told(ask.PrintQuery(q)), " 3")
	want(t, "a query that is too long, and wrong", told(ask.ReadQuery(strings.Repeat("?", 10001))), told(api.Query{}, 0, 3))
}

func TestL4Read(t *testing.T) {
	x, y, z := tag("x"), tag("y"), tag("z")
	for _, c := range []struct {
		text string
		want api.Cond
	}{
		{"#x and #y or #z", anyOf(allOf(x, y), z)}, {"#x or #y and #z", anyOf(x, allOf(y, z))}, {"#x and #y or #z and #x or #y", anyOf(allOf(x, y), allOf(z, x), y)}, {"#x and #y and #z", allOf(x, y, z)}, {"#x and (#y and #z)", allOf(x, allOf(y, z))}, {"(#x and #y) and #z", allOf(allOf(x, y), z)}, {"((#x)) and ((#y))", allOf(x, y)}, {"#x or (#y)", anyOf(x, y)}, {"(#x and #y) or #z", anyOf(allOf(x, y), z)}, {"#x and (#y or #z)", allOf(x, anyOf(y, z))},
		{"not #x and #y", allOf(not(x), y)}, {"not #x or #y", anyOf(not(x), y)}, {"not (#x) and #y", allOf(not(x), y)}, {"all #x and #y", allOf(allOf(x), y)}, {"any #x or #y", anyOf(anyOf(x), y)}, {"any #x and #y", allOf(anyOf(x), y)}, {"#x and all #y", allOf(x, allOf(y))}, {"all all #x", allOf(allOf(x))}, {"all any not all", allOf(anyOf(not(allOf())))}, {"any not not #x", anyOf(not(not(x)))}, {"not all", not(allOf())}, {"not (all)", not(allOf())}, {"not all #x", not(allOf(x))}, {"any (all)", anyOf(allOf())}, {"all and all or all", anyOf(allOf(allOf(), allOf()), allOf())}, {"all or #x", anyOf(allOf(), x)}, {"(all) and #x", allOf(allOf(), x)},
		{"all name \"a\"", allOf(has("a"))}, {"all way 5..6", allOf(field(3, 5, 6))}, {"all run", allOf(sport(1))}, {"all (#x or #y)", allOf(anyOf(x, y))}, {"all none", allOf(anyOf())}, {"all #x", allOf(x)},
		{"way 5 .. 6", field(3, 5, 6)}, {"way5..6", field(3, 5, 6)}, {" way  -5  ..  -4 ", field(3, -5, -4)}, {"way5..6and#x", allOf(field(3, 5, 6), x)}, {"way 999999999999999..1000000000000000", field(3, 999999999999999, 1000000000000000)}, {"way 0..0", field(3, 0, 0)}, {"way-5..-4", field(3, -5, -4)},
		{"name\"a\"", has("a")}, {`name   "a"and#x`, allOf(has("a"), x)}, {`name "\"\\"`, has(`"\`)}, {"not(run)and(ride)", allOf(not(sport(1)), sport(2))}, {"#x)", api.Cond{}}, {"#x(", api.Cond{}}, {"not#x", not(x)}, {"all(run)", allOf(sport(1))}, {"#-", tag("-")}, {"#5..6", tag("5..6")}, {"#all", tag("all")},
		{"run and ride", allOf(sport(1), sport(2))}, {"( run )", sport(1)},
	} {
		got, at, e := ask.ReadCond(c.text)
		if c.want.Kind == 0 {
			want(t, c.text, told(got, at, e), told(c.want, 2, 6))
			continue
		}
		want(t, c.text, told(got, at, e), told(c.want, 0, 0))
	}
}

// wrongConds has texts, each with a `!` ahead of the byte that is wrong.
var wrongConds = []string{
	"!", "   !", "!and", "!or", "!)", "(!", "!rum", "!Run", "!RUN", "!runs", "!ru", "!by", "!where", "!many", "!5", "!..", "!.", "!-", "!\"a\"", "!,", "!\x00", "!ä", "!\xff", "!\t", "!\nrun", "run!\n", "run!\t", "!&", "!\\", "!_",
	"run !run", "run !#a", "run !name", "run!5", "run!-5", "run !way", "run !(ride)", "run!)", "run !not ride", "run !all", "run !none", "run!.", "run!_x", "run!é", "run and!", "run and   !", "run or!", "run and !and ride", "run and !or ride", "run and !)", "run and !5", "run !an ride", "run !And ride", "run !andride", "run !x",
	"(!)", "(run!", "(run  !", "(run !ride)", "((run)!", "(run)!)", "(run and !)", "( !)", "(run!, ride)", "(!", "(run)and!", "(run) !(ride)",
	"not!", "not !and", "not !)", "not !or run", "not not!", "any!", "any !and run", "any !)", "any any!", "(any !)", "all !5", "all !x", "all !\"a\"", "all !-", "all !runs", "all all !5", "none !run", "none !none", "all (!", "all not!", "all any!", "not any !or run", "all!.",
	"!#", "run and !#", "!# a", "!##a", "!#ä", "!#,", "!#(", "#a!#b", "#a !b", "#a!,", "#a!ä", "all !#", "not !#", "(!#)", "all !# a", "#a !#", "#a!\"",
	"name!", "name !a", "name  !", "name !#a", "name !5", "name!)", `name "abc!`, `name "abc   !`, `name "abc\!`, `name "abc\"!`, `name "abc\\\"  !`, `name !"abc\d"`, `name !"abc\ "`, `name !"\n`, `name "a"!"b"`, `name "a" !x`, `name "a"!'`, `name !'a'`, `name "!`, `name "\!`, "name !\"\\\xff\"", `not name "a!`, `all name "\"!`,
	"way!", "way   !", "way !x", "way !..5", "way !)", "way !and", "way -!", "way   -!", "way !- 5..6", "way !-x", "way !--5..6", "way !-0..5", "way !-00..5", "way !-05..6", "way !00..5", "way !05..6", "way !1234567890123456789..5", "way !-1234567890123456789", "way !0000000000000000000", "way !+5..6", "way !\"5\"", "way !.5..6", "way !-.5",
	"way 5!", "way 5  !", "way 5 !6", "way 5!-6", "way 5!x", "way 5!)", "way 5!,", "way 5.!", "way 5 .!", "way 5.!6", "way 5.! .6", "way 5 .! 6", "way 5.!)", "way 5.! .", "way 5..!", "way 5..   !", "way 5..!x", "way 5..!.6", "way 5..!..6", "way 5..-!", "way 5..!-x", "way 5..!-0", "way 5..!06", "way 5..!)", "way 5 .. !- 6", "way 5..!1234567890123456789", "way 5..!0000", "way 5!e3..6", "way 5..6!.", "way 5..6!..", "way 5..6 !7", "way 5..6!-7", "way 5..6 !x", "way 5..6!e5", "way 5..6!)", "way 5..6 !way 5..6",
	"way 5..6 and !", "day !day", "start!", "climb 5!", "load 5..!", "seconds !", "weekday !monday", "!weekdays 5..6", "!distance 5..6", "!Way 5..6",
	"run and way 5 .! 6",
}

func TestL4Wrong(t *testing.T) {
	for _, s := range wrongConds {
		at := strings.Index(s, "!")
		text := s[:at] + s[at+1:]
		want(t, text, told(ask.ReadCond(text)), told(api.Cond{}, at, 6))
		want(t, "in a query "+text, told(ask.ReadQuery("many where "+text)), told(api.Query{}, at+11, 6))
	}
	want(t, "all by", told(ask.ReadCond("all by")), told(api.Cond{}, 4, 6))
	want(t, "run by day", told(ask.ReadCond("run by day")), told(api.Cond{}, 4, 6))
}

func TestL4WrongConds(t *testing.T) {
	for _, c := range []struct {
		text string
		want api.Errno
	}{
		{"#" + strings.Repeat("x", 61), api.ErrName}, {"way 5..4", api.ErrRange}, {"way 0..1000000000000001", api.ErrRange}, {"way -999999999999999999..999999999999999999", api.ErrRange}, {`name ""`, api.ErrForm}, {`name "` + strings.Repeat("x", 61) + `"`, api.ErrForm}, {"name \"\n\"", api.ErrForm}, {"name \"ä\"", api.ErrForm}, {"name \"\x7f\"", api.ErrForm},
		{"run" + strings.Repeat(" and run", 98), api.OK}, {"run" + strings.Repeat(" and run", 99), api.ErrSize}, {"run" + strings.Repeat(" or run", 1000), api.ErrSize}, {strings.Repeat("not ", 20) + "run", api.OK}, {strings.Repeat("not ", 21) + "run", api.ErrSize}, {strings.Repeat("all ", 21), api.OK}, {strings.Repeat("all ", 22), api.ErrSize}, {strings.Repeat("not ", 50) + "run", api.ErrSize},
		{"#" + strings.Repeat("x", 61) + " and way 5..4", api.ErrName}, {"way 5..4 and #" + strings.Repeat("x", 61), api.ErrRange},
	} {
		c1, at, e := ask.ReadCond(c.text)
		want(t, c.text, told(at, e), told(0, c.want))
		_, at, e = ask.ReadQuery("many where " + c.text)
		want(t, c.text, told(at, e), told(0, c.want))
		if c.want != api.OK {
			want(t, c.text, told(c1), told(api.Cond{}))
		}
	}
}

// TestL4Deep stands texts in one another.
func TestL4Deep(t *testing.T) {
	deep := func(text string, n int) string { return strings.Repeat(text, n) }
	for _, c := range []struct {
		text string
		at   int
		e    api.Errno
	}{
		{deep("(", 50) + "run" + deep(")", 50), 0, 0}, {deep("(", 51) + "run" + deep(")", 51), 50, 6}, {deep("( ", 51) + "run" + deep(")", 51), 100, 6}, {deep("(", 51), 50, 6}, {deep("(", 50), 50, 6}, {deep("(", 51) + "rum", 50, 6}, {deep("(", 50) + "rum", 50, 6},
		{deep("(", 49) + "not run" + deep(")", 49), 0, 0}, {deep("(", 50) + "not run" + deep(")", 50), 50, 6}, {deep("(", 49) + "not (run)" + deep(")", 49), 53, 6}, {deep("(", 49) + "any run" + deep(")", 49), 0, 0}, {deep("(", 50) + "any run" + deep(")", 50), 50, 6}, {deep("(", 50) + "any", 50, 6}, {deep("(", 50) + "not", 50, 6},
		{deep("(", 49) + "all run" + deep(")", 49), 0, 0}, {deep("(", 50) + "all run" + deep(")", 50), 50, 6}, {deep("(", 50) + "all" + deep(")", 50), 0, 0}, {deep("(", 50) + "all and all" + deep(")", 50), 0, 0}, {deep("(", 50) + "all none", 50, 6}, {deep("(", 50) + "all name", 50, 6}, {deep("(", 50) + "all way", 50, 6}, {deep("(", 50) + "all (", 50, 6}, {deep("(", 50) + "all #x", 50, 6}, {deep("(", 50) + "all not", 50, 6}, {deep("(", 50) + "all any", 50, 6}, {deep("(", 50) + "all all", 50, 6}, {deep("(", 49) + "all all" + deep(")", 49), 0, 0}, {deep("(", 50) + "all rum", 54, 6}, {deep("(", 50) + "all 5", 54, 6}, {deep("(", 50) + "all", 53, 6},
		{deep("not ", 51) + "run", 200, 6}, {deep("not ", 50) + "(run)", 200, 6}, {deep("any ", 51) + "run", 200, 6}, {deep("all ", 51) + "run", 200, 6}, {deep("all ", 52), 200, 6}, {deep("not ", 50), 200, 6},
		{deep("(", 50) + "run" + deep(")", 50) + " and " + deep("(", 50) + "run" + deep(")", 50), 0, 0}, {deep("(", 50) + "run" + deep(")", 50) + " and " + deep("(", 51) + "run", 158, 6}, {"not " + deep("(", 49) + "run" + deep(")", 49) + " and not " + deep("(", 49) + "run" + deep(")", 49), 0, 0}, {deep("not run and ", 60) + "run", 0, 3}, {deep("not run and ", 30) + "run", 0, 0}, {deep("(run) or ", 60) + "run", 0, 0},
		{deep("(", 50) + "run and (ride)" + deep(")", 50), 58, 6}, {deep("(", 49) + "run and (ride) and (ride) and not swim" + deep(")", 49), 0, 0},
	} {
		_, at, e := ask.ReadCond(c.text)
		want(t, c.text, told(at, e), told(c.at, c.e))
		_, at, e = ask.ReadQuery("many where " + c.text)
		if c.e == api.ErrSyntax {
			c.at += 11
		}
		want(t, "in a query "+c.text, told(at, e), told(c.at, c.e))
	}
	deepest := sport(1)
	for range 20 {
		deepest = allOf(deepest)
	}
	text, _ := ask.PrintCond(deepest)
	want(t, text, told(ask.ReadCond(text)), told(deepest, 0, 0))
}

// queryTexts has queries as PrintQuery writes them.
var queryTexts = []struct {
	q    api.Query
	text string
}{
	{api.Query{Where: allOf(), Tells: tells(1, 0)}, "many"},
	{api.Query{Where: anyOf(), Tells: tells(1, 0)}, "many where none"},
	{api.Query{Where: allOf(allOf()), Tells: tells(1, 0)}, "many where all all"},
	{api.Query{Where: not(allOf()), Tells: tells(1, 0)}, "many where not all"},
	{api.Query{Where: allOf(sport(1), sport(2)), Tells: tells(1, 0)}, "many where run and ride"},
	{api.Query{Where: anyOf(sport(1), allOf()), Tells: tells(1, 0), Group: 4}, "many where run or all by tag"},
	{api.Query{Where: allOf(), Tells: tells(2, 1, 3, 2, 4, 3, 5, 4), Group: 1}, "sum start, least day, most way, mean climb by day"},
	{api.Query{Where: field(2, 5, 6), Tells: tells(2, 5, 3, 6, 4, 7, 1, 0, 1, 0), Group: 2}, "sum seconds, least load, most weekday, many, many where day 5..6 by week"},
	{api.Query{Where: not(sport(1)), Tells: tells(2, 2), Group: 3}, "sum day where not run by sport"},
	{api.Query{Where: allOf(), Tells: tells(1, 0), Group: 4}, "many by tag"},
}

func TestL5Print(t *testing.T) {
	for _, c := range queryTexts {
		want(t, c.text, told(ask.PrintQuery(c.q)), c.text+" 0")
		want(t, c.text, told(ask.ReadQuery(c.text)), told(c.q, 0, 0))
		blanks := "  " + strings.NewReplacer(" ", "   ", ",", "  ,", "..", " .. ").Replace(c.text) + " "
		want(t, blanks, told(ask.ReadQuery(blanks)), told(c.q, 0, 0))
	}
	for text, q := range map[string]api.Query{
		"many where all":          {Where: allOf(), Tells: tells(1, 0)},
		"many where (all) by day": {Where: allOf(), Tells: tells(1, 0), Group: 1},
		"many where all by week":  {Where: allOf(), Tells: tells(1, 0), Group: 2},
		"many,many":               {Where: allOf(), Tells: tells(1, 0, 1, 0)},
		"sum way,many where#x":    {Where: tag("x"), Tells: tells(2, 3, 1, 0)},
		"many where(run)by day":   {Where: sport(1), Tells: tells(1, 0), Group: 1},
	} {
		want(t, text, told(ask.ReadQuery(text)), told(q, 0, 0))
	}
}

func TestL5Wrong(t *testing.T) {
	for _, s := range []string{
		"!", "  !", "!all", "!run", "!where run", "!by day", "!,", "!way", "!5", "!Many", "!man", "!manyy", "!count", "!(many)", "!#a", "!median way",
		"sum!", "sum  !", "sum !many", "sum !,", "sum !5", "sum !where", "sum !weekdays", "sum !sport", "least!", "most !x", "mean !run", "mean !Way", "sum!(way)", "many !way", "many !many", "many!5", "many!;", "many!.", "many !and", "many !Where", "many !run",
		"many,!", "many,  !", "many,!,", "many, !where run", "many, !by day", "many, !way", "many , !x", "sum way!-", "sum way !5", "sum way !sum way", "sum way, !way",
		"many where!", "many where  !", "many where !by day", "many where !where run", "many where !many", "many where run !where run", "many where run!, many", "many where all !where", "many where run and !by day", "many where run!)", "many where not !by", "many where all !5",
		"many by!", "many by  !", "many by !way", "many by !month", "many by !days", "many by !Day", "many by !5", "many by day !by week", "many by day!,", "many by day !where run", "many by day !5", "many by day!.", "many by day!, many", "many where run by!", "many where run by !run", "many where all by!", "many where all by !all", "many where run by tag !and", "many by !start", "many by !none", "many by tag!#",
		"many!\t", "many!\nby day",
	} {
		at := strings.Index(s, "!")
		text := s[:at] + s[at+1:]
		want(t, text, told(ask.ReadQuery(text)), told(api.Query{}, at, 6))
	}
	for text, e := range map[string]api.Errno{
		"many" + strings.Repeat(",many", 9): api.OK, "many" + strings.Repeat(",many", 10): api.ErrSize, "many" + strings.Repeat(",many", 1900): api.ErrSize, "many where way 5..4": api.ErrRange, "many" + strings.Repeat(", many", 10) + " where way 5..4": api.ErrRange, "many where #" + strings.Repeat("a", 61) + " by day": api.ErrName,
	} {
		q, at, got := ask.ReadQuery(text)
		want(t, text, told(at, got), told(0, e))
		if e != api.OK {
			want(t, text, told(q), told(api.Query{}))
		}
	}
}

// A token is a word, a number, a text in quotes or a sign, and where it begins.
type token struct {
	kind, text string
	at         int
}

var tokenForms = []struct{ kind, form string }{
	{"word", `[a-zA-Z]+`}, {"number", `-?[0-9]+`}, {"quoted", `"(?:[^"\\]|\\["\\])*"`}, {"tag", `#[a-zA-Z0-9._-]+`}, {"points", `\.\.`}, {"sign", `[(),]`},
}

var (
	tokenForm  = regexp.MustCompile(`(?s)^(?:(` + tokenForms[0].form + `)|(` + tokenForms[1].form + `)|(` + tokenForms[2].form + `)|(` + tokenForms[3].form + `)|(` + tokenForms[4].form + `)|(` + tokenForms[5].form + `))`)
	numberForm = regexp.MustCompile(`^(0|-?[1-9][0-9]{0,17})$`)
	openForm   = regexp.MustCompile(`(?s)^"(?:[^"\\]|\\["\\])*\\?$`)
)

// tokensOf returns the tokens of a text; what is none is one of the kind `bad`, up to the end, which has the kind `end` and is always there.
func tokensOf(s string) (l []token) {
	at := 0
	for {
		for at < len(s) && s[at] == ' ' {
			at++
		}
		if at == len(s) {
			return append(l, token{"end", "", at})
		}
		m := tokenForm.FindStringSubmatch(s[at:])
		kind := "bad"
		for i := range m {
			if i > 0 && m[i] != "" {
				kind = tokenForms[i-1].kind
			}
		}
		if kind == "number" && !numberForm.MatchString(m[0]) {
			kind = "bad"
		}
		if kind == "bad" {
			return append(l, token{"bad", s[at:], at})
		}
		l = append(l, token{kind, m[0], at})
		at += len(m[0])
	}
}

// A machine takes tokens as long as they can stand where they stand. Its state says what can come next.
type machine struct {
	state string
	open  []string // brackets and words that are not complete
	all   int      // where the `all` begins, of which it is not known yet whether it has a Kid
	query bool
}

var units = map[string]string{"not": "unit", "any": "unit", "(": "unit", "all": "behind all", "none": "complete", "name": "quotes", "run": "complete", "ride": "complete", "swim": "complete", "walk": "complete", "ski": "complete", "start": "low", "day": "low", "way": "low", "climb": "low", "seconds": "low", "load": "low", "weekday": "low"}

// take reports where something is wrong with a token, or -1.
func (m *machine) take(x token) int {
	if m.state == "behind all" {
		if units[x.text] == "" && x.kind != "tag" {
			m.complete()
		} else {
			if len(m.open) == 50 {
				return m.all
			}
			m.open, m.state = append(m.open, "all"), "unit"
		}
	}
	switch next := m.next(x); {
	case next == "":
		return m.wrong(x)
	case next == "complete":
		m.complete()
	default:
		if m.state == "unit" && next == "unit" {
			if len(m.open) == 50 {
				return x.at
			}
			m.open = append(m.open, x.text)
		}
		m.state, m.all = next, x.at
	}
	return -1
}

// next returns the state behind a token, or nothing, if it can't stand here.
func (m *machine) next(x token) string {
	switch m.state {
	case "unit":
		if x.kind == "tag" {
			return "complete"
		}
		return units[x.text]
	case "low", "high", "quotes", "points":
		return map[string]string{"low number": "points", "points points": "high", "high number": "complete", "quotes quoted": "complete"}[m.state+" "+x.kind]
	case "complete":
		if x.text == ")" && slices.Contains(m.open, "(") {
			m.open = m.open[:len(m.open)-1]
			return "complete"
		}
		if x.text == "and" || x.text == "or" {
			return "unit"
		}
		if m.query && x.text == "by" && len(m.open) == 0 {
			return "group"
		}
	case "tell":
		return map[string]string{"many": "told", "sum": "field", "least": "field", "most": "field", "mean": "field"}[x.text]
	case "field":
		if units[x.text] == "low" {
			return "told"
		}
	case "told":
		return map[string]string{",": "tell", "where": "unit", "by": "group"}[x.text]
	case "group":
		return map[string]string{"day": "end", "week": "end", "sport": "end", "tag": "end"}[x.text]
	}
	return ""
}

// complete closes the words of which this is the Kid.
func (m *machine) complete() {
	m.state = "complete"
	for len(m.open) > 0 && m.open[len(m.open)-1] != "(" {
		m.open = m.open[:len(m.open)-1]
	}
}

// wrong returns where a token is wrong that can't stand here.
func (m *machine) wrong(x token) int {
	end := x.at + len(x.text)
	switch {
	case x.kind == "end" && len(m.open) == 0 && (m.state == "complete" || m.state == "told" || m.state == "end"):
		return -1
	case x.kind == "bad" && (m.state == "low" || m.state == "high") && x.text == "-":
		return end
	case x.kind == "bad" && m.state == "quotes" && openForm.MatchString(x.text):
		return end
	case x.kind == "bad" && m.state == "points" && x.text[0] == '.':
		return x.at + 1
	}
	return x.at
}

// wrongByte returns where a text is wrong, or -1.
func wrongByte(s string, query bool) int {
	m := &machine{state: "unit", query: query}
	if query {
		m.state = "tell"
	}
	for _, x := range tokensOf(s) {
		if x.kind == "end" && m.state == "behind all" {
			m.complete()
		}
		if at := m.take(x); at >= 0 {
			return at
		}
	}
	return -1
}

// slowCond builds a condition from the tokens of a right text: it divides them at the words that bind the least.
func slowCond(l []token) api.Cond {
	for _, word := range []string{"or", "and"} {
		if parts := divided(l, word); len(parts) > 1 {
			kind := map[string]int{"or": api.CondAny, "and": api.CondAll}[word]
			return api.Cond{Kind: kind, Kids: many(len(parts), func(i int) api.Cond { return slowCond(parts[i]) })}
		}
	}
	rest := l[1:]
	switch word := l[0].text; {
	case word == "(":
		return slowCond(rest[:len(rest)-1])
	case l[0].kind == "tag":
		return tag(word[1:])
	case word == "not":
		return not(slowCond(rest))
	case word == "any":
		return anyOf(slowCond(rest))
	case word == "all" && len(rest) > 0:
		return allOf(slowCond(rest))
	case word == "all":
		return allOf()
	case word == "none":
		return anyOf()
	case word == "name":
		quoted := rest[0].text
		return has(strings.NewReplacer(`\\`, `\`, `\"`, `"`).Replace(quoted[1 : len(quoted)-1]))
	case len(rest) == 0:
		return sport(1 + slices.Index([]string{"run", "ride", "swim", "walk", "ski"}, word))
	}
	low, _ := strconv.Atoi(rest[0].text)
	high, _ := strconv.Atoi(rest[2].text)
	return field(1+slices.Index([]string{"start", "day", "way", "climb", "seconds", "load", "weekday"}, l[0].text), low, high)
}

// divided divides tokens at a word that stands in no brackets.
func divided(l []token, word string) [][]token {
	parts, deep := [][]token{nil}, 0
	for _, x := range l {
		switch {
		case x.text == "(":
			deep++
		case x.text == ")":
			deep--
		}
		if x.text == word && deep == 0 {
			parts = append(parts, nil)
			continue
		}
		parts[len(parts)-1] = append(parts[len(parts)-1], x)
	}
	return parts
}

// slowReadCond reads by tokens.
func slowReadCond(s string) (api.Cond, int, api.Errno) {
	if at := wrongByte(s, false); at >= 0 {
		return api.Cond{}, at, api.ErrSyntax
	}
	l := tokensOf(s)
	c := slowCond(l[:len(l)-1])
	if e := slowCheckCond(c); e != api.OK {
		return api.Cond{}, 0, e
	}
	return c, 0, api.OK
}

// slowReadQuery reads by tokens.
func slowReadQuery(s string) (api.Query, int, api.Errno) {
	if at := wrongByte(s, true); at >= 0 {
		return api.Query{}, at, api.ErrSyntax
	}
	l := tokensOf(s)
	l = l[:len(l)-1]
	q := api.Query{Where: allOf()}
	if parts := divided(l, "by"); len(parts) > 1 {
		l, q.Group = parts[0], slices.Index([]string{"", "day", "week", "sport", "tag"}, parts[1][0].text)
	}
	if parts := divided(l, "where"); len(parts) > 1 {
		l, q.Where = parts[0], slowCond(parts[1])
	}
	for _, x := range divided(l, ",") {
		y := api.Tell{Kind: slices.Index([]string{"", "many", "sum", "least", "most", "mean"}, x[0].text)}
		if len(x) > 1 {
			y.Field = slices.Index([]string{"", "start", "day", "way", "climb", "seconds", "load", "weekday"}, x[1].text)
		}
		q.Tells = append(q.Tells, y)
	}
	if e := slowCheckCond(q.Where); e != api.OK {
		return api.Query{}, 0, e
	}
	if len(q.Tells) > 10 {
		return api.Query{}, 0, api.ErrSize
	}
	return q, 0, api.OK
}

// TestL4Words reads all short rows of some words.
func TestL4Words(t *testing.T) {
	for _, words := range []string{"run and or not all any ( )", "all not #x and none ( by", "way 5 .. -3 . - and", `name "a" " \ \" and`} {
		list := strings.Split(words, " ")
		rows := []string{""}
		for range 5 {
			var longer []string
			for _, s := range rows {
				for _, word := range list {
					longer = append(longer, s+" "+word)
				}
			}
			rows = longer
			for _, s := range rows {
				want(t, s, told(ask.ReadCond(s)), told(slowReadCond(s)))
			}
		}
	}
}

// TestL4Bytes reads all short rows of some bytes behind a beginning.
func TestL4Bytes(t *testing.T) {
	for _, x := range []struct{ ahead, bytes string }{{"way ", "50-. x"}, {"way 5", "0. -)"}, {`name "a`, `a"\ )`}, {"all", " l#(n5)"}, {"#", "a-. #\""}} {
		rows := []string{x.ahead}
		for range 5 {
			var longer []string
			for _, s := range rows {
				for _, c := range x.bytes {
					longer = append(longer, s+string(c))
				}
			}
			rows = longer
			for _, s := range rows {
				want(t, s, told(ask.ReadCond(s)), told(slowReadCond(s)))
			}
		}
	}
}

// spoilText changes something of a text.
func spoilText(r *rand.Rand, s string) string {
	at := r.Intn(len(s) + 1)
	switch r.Intn(7) {
	case 0:
		return s[:at]
	case 6:
		return s + one(r, " and", " or") + one(r, " #"+strings.Repeat("a", 61), ` name ""`, " way 9..1", strings.Repeat(" not", 21)+" run", "")
	case 1, 2:
		return s[:at] + one(r, " ", "  ", "(", ")", "0", "7", "-", ".", "..", "\"", "\\", "#", "a", "_", "ä", "\n", " and ", " or ", " not ", " all ", " any ", " none ", " run ", " name ", " way ", " by ", " where ", ",", "many", strings.Repeat("(", 45), strings.Repeat("not ", 20), strings.Repeat("5", 18)) + s[at:]
	case 3:
		return s[:at] + s[min(at+1, len(s)):]
	}
	words := strings.SplitAfter(s, " ")
	from, to := r.Intn(len(words)), r.Intn(len(words))
	words[from] = words[to]
	return strings.Join(words, "")
}

// loosen writes a text with other blanks, and brackets around some of its parts.
func loosen(r *rand.Rand, s string) string {
	var b strings.Builder
	for _, x := range tokensOf(s) {
		blanks := strings.Repeat(" ", r.Intn(3))
		if last := b.Len() - 1; x.kind == "word" || x.kind == "number" || last >= 0 && strings.HasSuffix(b.String(), "-") {
			blanks += " "
		}
		b.WriteString(blanks)
		if (x.text == "all" || x.text == "none" || x.kind == "tag") && r.Intn(3) == 0 {
			if x.text == "all" {
				x.text = "(all)"
			} else {
				x.text = "( " + x.text + ")"
			}
		}
		b.WriteString(x.text)
	}
	return b.String()
}

func TestL4Random(t *testing.T) {
	r := rand.New(rand.NewSource(129))
	seen := map[api.Errno]int{}
	for range 20000 {
		c := randomCond(r, r.Intn(5))
		s, e := ask.PrintCond(c)
		if e == api.ErrSize {
			continue
		}
		want(t, show(c), told(e), "0")
		want(t, s, told(ask.ReadCond(s)), told(c, 0, 0))
		loose := loosen(r, s)
		want(t, loose, told(ask.ReadCond(loose)), told(slowReadCond(loose)))
		for range 1 + r.Intn(3) {
			s = spoilText(r, s)
		}
		if len(s) > 10000 {
			continue
		}
		got, at, e := ask.ReadCond(s)
		seen[e]++
		want(t, s, told(got, at, e), told(slowReadCond(s)))
	}
	wantOften(t, seen, api.OK, api.ErrSyntax, api.ErrRange, api.ErrForm, api.ErrName, api.ErrSize)
}

func TestL5Random(t *testing.T) {
	r := rand.New(rand.NewSource(130))
	seen := map[api.Errno]int{}
	for range 20000 {
		q := randomQuery(r)
		s, e := ask.PrintQuery(q)
		want(t, told(q), told(e), "0")
		want(t, s, told(ask.ReadQuery(s)), told(q, 0, 0))
		for range 1 + r.Intn(3) {
			s = spoilText(r, s)
		}
		got, at, e := ask.ReadQuery(s)
		seen[e]++
		want(t, s, told(got, at, e), told(slowReadQuery(s)))
	}
	wantOften(t, seen, api.OK, api.ErrSyntax, api.ErrRange, api.ErrName)
}

// slowCondText writes a condition by the words of the document.
func slowCondText(c api.Cond, isKid bool) string {
	var kids []string
	for _, x := range c.Kids {
		kids = append(kids, slowCondText(x, true))
	}
	ahead, behind := "", ""
	if isKid && c.Kind != api.CondNot && len(kids) > 0 {
		ahead, behind = "(", ")"
	}
	var text string
	switch {
	case c.Kind == api.CondAll && len(kids) == 0:
		text = "all"
	case c.Kind == api.CondAny && len(kids) == 0:
		text = "none"
	case c.Kind == api.CondAll && len(kids) == 1:
		text = "all " + kids[0]
	case c.Kind == api.CondAny && len(kids) == 1:
		text = "any " + kids[0]
	case c.Kind == api.CondNot:
		text = "not " + kids[0]
	case c.Kind == api.CondAll:
		text = strings.Join(kids, " and ")
	case c.Kind == api.CondAny:
		text = strings.Join(kids, " or ")
	case c.Kind == api.CondSport:
		text = []string{"run", "ride", "swim", "walk", "ski"}[c.Low-1]
	case c.Kind == api.CondTag:
		text = "#" + c.Text
	case c.Kind == api.CondHas:
		text = fmt.Sprintf("name %q", c.Text)
	default:
		text = fmt.Sprint([]string{"start", "day", "way", "climb", "seconds", "load", "weekday"}[c.Field-1], " ", c.Low, "..", c.High)
	}
	return ahead + text + behind
}

func TestL4PrintRandom(t *testing.T) {
	r := rand.New(rand.NewSource(131))
	for range 20000 {
		c := randomCond(r, r.Intn(5))
		text := slowCondText(c, false)
		if len(text) > 10000 {
			want(t, text, told(ask.PrintCond(c)), " 3")
		} else {
			want(t, text, told(ask.PrintCond(c)), text+" 0")
		}
	}
}

// TestL4FieldOf asks for the words of the numbers of rows.
func TestL4FieldOf(t *testing.T) {
	for i, word := range []string{"start", "day", "way", "climb", "seconds", "load", "weekday"} {
		want(t, word, told(ask.FieldOf(word)), told(api.FieldStart+i, true))
	}
	for _, word := range []string{"", " ", "Start", "star", "starts", "start ", "sport", "many"} {
		want(t, word, told(ask.FieldOf(word)), "0 false")
	}
}
