package workout_test

import (
	"fmt"
	"math/rand"
	"regexp"
	"strconv"
	"strings"
	"testing"

	"harrier/api"
	"harrier/quant"
	"harrier/workout"
)

// read tells what Read returns, with the workout as Print writes it, or as it is if Print does not.
func read(s string) string {
	w, line, e := workout.Read(s)
	text, _ := workout.Print(w)
	return told(text, line, e)
}

// item reads one line in a workout.
func item(line string) string {
	w, at, e := workout.Read("workout w\n" + line + "\n")
	return told(w.Items, at, e)
}

func TestG3Items(t *testing.T) {
	for _, c := range [][2]string{
		{"step a for 1:30", "[{1 a 90 0 {0 false 0 0} 0 []}] 0 0"},
		{"step a for 1:00:00", "[{1 a 3600 0 {0 false 0 0} 0 []}] 0 0"},
		{"step a for 999:59:59", "[{1 a 3599999 0 {0 false 0 0} 0 []}] 0 0"},
		{"step a for 1h2m3s power 5", "[{1 a 3723 0 {1 false 5 5} 0 []}] 0 0"},
		{"step a over 400m pulse 5-6", "[{1 a 0 4000 {2 false 5 6} 0 []}] 0 0"},
		{"step a over 1.5km steps 180-190", "[{1 a 0 15000 {3 false 180 190} 0 []}] 0 0"},
		{"step a over 1mi pace 3:05-60:00", "[{1 a 0 16093 {4 false 185 3600} 0 []}] 0 0"},
		{"step a over 100000km pace 600:00", "[{1 a 0 1000000000 {4 false 36000 36000} 0 []}] 0 0"},
		{"step a for 5s pace 0:01", "[{1 a 5 0 {4 false 1 1} 0 []}] 0 0"},
		{"step a for 5s power 90%", "[{1 a 5 0 {1 true 90 90} 0 []}] 0 0"},
		{"step a for 5s pulse 90-95%", "[{1 a 5 0 {2 true 90 95} 0 []}] 0 0"},
		{"step a for 5s pace 90-300%", "[{1 a 5 0 {4 true 90 300} 0 []}] 0 0"},
		{"ramp a for 5s power 100-3000", "[{2 a 5 0 {1 false 100 3000} 0 []}] 0 0"},
		{"ramp a for 5s power 300-20", "[{2 a 5 0 {1 false 300 20} 0 []}] 0 0"},
		{"ramp a over 12yd pace 5:00-4:59", "[{2 a 0 110 {4 false 300 299} 0 []}] 0 0"},
		{"ramp a for 5s steps 90", "[{2 a 5 0 {3 false 90 90} 0 []}] 0 0"},
		{"step step for 5s", "[{1 step 5 0 {0 false 0 0} 0 []}] 0 0"},
		{"step for for 5s", "[{1 for 5 0 {0 false 0 0} 0 []}] 0 0"},
		{"step workout over 5m power 5", "[{1 workout 0 50 {1 false 5 5} 0 []}] 0 0"},
		{" \t step\ta  \tfor\t\t5s \t", "[{1 a 5 0 {0 false 0 0} 0 []}] 0 0"},
		{"step a for 5s#power 5", "[{1 a 5 0 {0 false 0 0} 0 []}] 0 0"},
		{"step a for 5s power 5#-6", "[{1 a 5 0 {1 false 5 5} 0 []}] 0 0"},
		{"step a for 5s # power # 5", "[{1 a 5 0 {0 false 0 0} 0 []}] 0 0"},
		{"repeat 99\nstep a for 5s\nend", "[{3  0 0 {0 false 0 0} 99 [{1 a 5 0 {0 false 0 0} 0 []}]}] 0 0"},
	} {
		want(t, c[0], item(c[0]), c[1])
	}
}

// TestG3WrongLines has lines that have no form: line 2 is wrong.
func TestG3WrongLines(t *testing.T) {
	for _, s := range []string{
		"step", "step a", "step a for", "step a 5s", "step a for 5s power", "step a for 5s 5", "step a for 5s power 5 6", "step a for 5s power 5 power 6", "step a for 5s over 5m", "step a for 5s for 5s",
		"ramp", "ramp a", "ramp a for", "ramp a for 5s", "ramp a for 5s power", "ramp a for 5s power 5 -", "repeat", "repeat 2 3", "repeat x", "repeat -1", "repeat 02", "repeat 1000000", "repeat +2", "repeat 2x", "repeat 2%",
		"end", "end 5", "workout b", "workout", "Step a for 5s", "steps a for 5s", "step a For 5s", "x", "0", "-", "%", "step a for 5s none 0",
		"step a for 5", "step a for 60:00", "step a for 5m3h", "step a for 1 m", "step a for -5s", "step a over 5s", "step a over 5", "step a over 5.m", "step a over 5 m", "step a over 1.2345678km", "step a for over 5m",
		"step a for 1000h", "step a for 9999999h", "step a over 100001km", "step a over 9999999mi", "step a for " + strings.Repeat("0", 1001), // they are out of their range, so nothing is read
		"step a for 5s power 05", "step a for 5s power 1234567", "step a for 5s power 5-", "step a for 5s power -5", "step a for 5s power 5-6-7", "step a for 5s power 5%-6%", "step a for 5s power 5%-6", "step a for 5s power 5%%", "step a for 5s power %", "step a for 5s power 5-%", "step a for 5s power 5.5", "step a for 5s power 5- 6", "step a for 5s power 5 %", "step a for 5s power 5:00", "step a for 5s power x", "step a for 5s power 00", "step a for 5s power 5-06", "step a for 5s power 5-1234567%", "step a for 5s power 5:", "step a for 5s power 5/", "step a for 5s Power 5", "step a for 5s power -", "step a for 5s pulse 5:00", "step a for 5s steps 5:00-6:00",
		"step a for 5s pace 5", "step a for 5s pace 300", "step a for 5s pace 5:0", "step a for 5s pace 5:60", "step a for 5s pace 5:000", "step a for 5s pace 05:00", "step a for 5s pace 1000:00", "step a for 5s pace :30", "step a for 5s pace 5:", "step a for 5s pace 5:00%", "step a for 5s pace 5:00-", "step a for 5s pace 5:00-6", "step a for 5s pace 5-6", "step a for 5s pace 5:00-6:00%", "step a for 5s pace 1:00:00", "step a for 5s pace 5:00/km", "step a for 5s pace 5:0x", "step a for 5s pace 5:x0", "step a for 5s pace 5:-1", "step a for 5s pace 5:/0", "step a for 5s pace 00:30",
		"step a for 5s\r", "step a for 5s\v", "step a for 5s\u00a0power 5", "ste#p a for 5s", "step a for #5s", "step a for 5s power 5-#6",
	} {
		want(t, s, item(s), "[] 2 6")
		want(t, s+", within", told(workout.Read("# \n\nworkout w\nrepeat 2\n\trepeat 1 # x\n  "+s+" \nend")), wrongWithin(s))
	}
}

// wrongWithin tells what is wrong in line 6, or behind it: where a line would be right within a repeat, and another end is missing.
func wrongWithin(s string) string {
	if s == "end" {
		return "{ []} 0 13"
	}
	return "{ []} 6 6"
}

func TestG3Texts(t *testing.T) {
	for _, c := range [][2]string{
		{"", " 1 6"}, {"\n", " 2 6"}, {"\n\n", " 3 6"}, {"# x", " 2 6"}, {"# x\n", " 2 6"}, {" \t", " 2 6"}, {"#", " 2 6"}, {"\n \n#\n\t", " 5 6"},
		{"workout", " 1 6"}, {"workout a b", " 1 6"}, {"\nworkout a b\n", " 2 6"}, {"a", " 1 6"}, {"# x\nstep a for 5s\nworkout w", " 2 6"}, {"end\n", " 1 6"}, {"repeat 2\n", " 1 6"}, {"Workout a\n", " 1 6"},
		{"workout a", " 0 13"}, {"workout a\n\n", " 0 13"}, {"workout é\n", " 0 8"}, {"workout " + strings.Repeat("x", 61), " 0 8"}, {"workout a,b\nstep a for 0s", " 0 8"},
		{"workout a\nworkout a", " 2 6"}, {"workout a\nstep a for 5s\n\nworkout b", " 4 6"}, {"workout a\nrepeat 2\nworkout b\nend", " 3 6"},
		{"workout a\nend", " 2 6"}, {"workout a\nrepeat 1\nstep a for 5s\nend\nend\nx", " 5 6"},
		{"workout a\nrepeat 2", " 3 6"}, {"workout a\nrepeat 2\n", " 3 6"}, {"workout a\nrepeat 2\n\n", " 4 6"}, {"workout a\nrepeat 2\nstep a for 5s\nrepeat 2\nend\n ", " 7 6"}, {"workout a\nrepeat 2\n#", " 4 6"},
		{"workout a\nrepeat 2\nx", " 3 6"},
		{"workout a\nrepeat 2\nend", " 0 13"}, {"workout a\nrepeat 100\nend", " 0 9"}, {"workout a\nrepeat 999999\nend", " 0 9"}, {"workout a\nrepeat 0\nend\nx", " 4 6"}, {"workout a\nrepeat 2\nrepeat 3\nend\nstep a for 1s\nend", " 0 13"},
		{"workout a\nstep ü for 5s", " 0 8"}, {"workout a\nstep a for 0s", " 0 2"}, {"workout a\nstep a over 0m", " 0 2"}, {"workout a\nstep a over 0.01m", " 0 2"}, {"workout a\nstep a for 5s power 0", " 0 9"}, {"workout a\nstep a for 5s power 3001", " 0 9"}, {"workout a\nstep a for 5s power 999999", " 0 9"}, {"workout a\nstep a for 5s power 0%", " 0 9"}, {"workout a\nstep a for 5s pulse 301%", " 0 9"}, {"workout a\nstep a for 5s pace 0:00", " 0 9"}, {"workout a\nstep a for 5s pace 600:01", " 0 9"}, {"workout a\nstep a for 5s pace 999:59", " 0 9"},
		{"workout a\nstep a for 5s steps 5%", " 0 2"}, {"workout a\nstep a for 5s pace 5:00-4:59", " 0 10"}, {"workout a\nstep a for 5s power 6-5%", " 0 10"},
		{"workout a\nrepeat 99\nrepeat 99\nstep a for 5s\nend\nend", " 0 3"},
		{"workout a\n" + strings.Repeat("repeat 1\n", 4) + "step a for 5s\n" + strings.Repeat("end\n", 4), " 0 3"},
		{"workout a\n" + strings.Repeat("repeat 1\n", 1500) + "step a for 5s\n" + strings.Repeat("end\n", 1500), " 0 3"},
		{"workout a\n" + strings.Repeat("repeat 1\n", 2000), " 2002 6"},
		{"workout a\n" + strings.Repeat("step a for 1s\n", 201), " 0 3"},
		{"workout a\n" + strings.Repeat("step a for 1s\n", 200), "workout a\n" + strings.Repeat("step a for 0:01\n", 200) + " 0 0"},
		{"\t#\n\n  workout\t a#b\n\n\n step b for 90s\n", "workout a\nstep b for 1:30\n 0 0"},
	} {
		want(t, c[0], read(c[0]), c[1])
	}
}

func TestG3Size(t *testing.T) {
	s := "workout a\nstep b for 1s\n"
	full := s + "#" + strings.Repeat("x", workout.MaxSource-len(s)-1)
	want(t, "as long as can be", read(full), "workout a\nstep b for 0:01\n 0 0")
	want(t, "one byte more", read(full+"x"), " 0 3")
	want(t, "a line more", read(full+"\n"), " 0 3")
	want(t, "too long, and wrong", read("x\n"+full), " 0 3")
}

const (
	count = `(?:0|[1-9][0-9]{0,5})`
	pace  = `(?:0|[1-9][0-9]{0,2}):[0-5][0-9]`
	blank = `[ \t]+`
)

// lineForms has a form for each kind of line.
var lineForms = []*regexp.Regexp{
	regexp.MustCompile(`^workout ([^ ]+)$`),
	regexp.MustCompile(`^(step|ramp) ([^ ]+) (for|over) ([^ ]+)(?: (?:(power|pulse|steps) (` + count + `)(?:-(` + count + `))?(%?)|(pace) (?:(` + pace + `)(?:-(` + pace + `))?|(` + count + `)(?:-(` + count + `))?(%))))?$`),
	regexp.MustCompile(`^repeat (` + count + `)$`),
	regexp.MustCompile(`^end$`),
}

// slowRead reads by whole lines. Items of a repeat are found behind it, by how deep the lines are.
func slowRead(s string) (name string, l []api.Item, line int) {
	lines := strings.Split(s, "\n")
	if lines[len(lines)-1] == "" {
		lines = lines[:len(lines)-1]
	}
	var open [][]api.Item
	var times []int
	for i, text := range lines {
		text = regexp.MustCompile(`#.*`).ReplaceAllString(text, "")
		text = strings.Trim(regexp.MustCompile(blank).ReplaceAllString(text, " "), " ")
		if text == "" {
			continue
		}
		kind := -1
		var m []string
		for k, f := range lineForms {
			if x := f.FindStringSubmatch(text); x != nil {
				kind, m = k, x
			}
		}
		if kind < 0 || (kind == 0) != (open == nil) || kind == 3 && len(open) == 1 {
			return "", nil, i + 1
		}
		top := len(open) - 1
		switch kind {
		case 0:
			name, open = m[1], [][]api.Item{nil}
		case 1:
			x, ok := slowStep(m)
			if !ok {
				return "", nil, i + 1
			}
			open[top] = append(open[top], x)
		case 2:
			n, _ := strconv.Atoi(m[1])
			open, times = append(open, nil), append(times, n)
		case 3:
			open[top-1] = append(open[top-1], repeat(times[top-1], open[top]...))
			open, times = open[:top], times[:top-1]
		}
	}
	if len(open) != 1 {
		return "", nil, len(lines) + 1
	}
	return name, open[0], 0
}

func slowStep(m []string) (x api.Item, ok bool) {
	x = api.Item{Kind: 1, Name: m[2]}
	var e api.Errno
	if m[3] == "for" {
		x.Seconds, _, e = quant.ReadDuration(m[4])
	} else {
		x.Way, _, e = quant.ReadDistance(m[4])
	}
	if m[1] == "ramp" {
		x.Kind = 2
	}
	x.Aim.Measure = map[string]int{"": 0, "power": 1, "pulse": 2, "steps": 3, "pace": 4}[m[5]+m[9]]
	x.Aim.Percent = m[8]+m[14] == "%"
	x.Aim.Low = slowNumber(m[6] + m[10] + m[12])
	x.Aim.High = slowNumber(m[7] + m[11] + m[13])
	if m[7]+m[11]+m[13] == "" {
		x.Aim.High = x.Aim.Low
	}
	return x, e == api.OK && (x.Kind == 1 || x.Aim.Measure > 0)
}

func slowNumber(s string) int {
	if minutes, seconds, ok := strings.Cut(s, ":"); ok {
		return 60*slowNumber(minutes) + slowNumber(seconds)
	}
	n, _ := strconv.Atoi(s)
	return n
}

// pieces are what lines are made of.
var pieces = strings.Split("workout|step|ramp|repeat|end|for|over|power|pulse|steps|pace|a|b.c|é|5|90|0|100|05|1234567|3-5|5-3|5%|90-95%|5:00|4:59-5:00|0:07|60:00|1:00:00|90s|1h|1m|400m|1.5km|0m|0s|#|-|%|:|1km|5:60", "|")

// randomLine makes a line that often has a form.
func randomLine(r *rand.Rand) string {
	pick := func(s string) string { l := strings.Split(s, "|"); return l[r.Intn(len(l))] }
	var l []string
	switch r.Intn(12) {
	case 0, 1, 2, 3, 4:
		l = []string{pick("step|ramp|step"), pick("a|b|end"), pick("for 90s|for 1:00|over 1km|over 400m|for 5|over 5s")}
		if r.Intn(2) == 0 {
			l = append(l, pick("power|pulse|steps|pace|x"), pick("5|90-95%|5:00|5:00-6:00|100-90|100%|0"))
		}
	case 5, 6:
		l = []string{"repeat", pick("2|3|1|99|100|0|x")}
	case 7, 8, 9:
		l = []string{"end"}
	case 10:
		l = []string{pick("|#|# x")}
	case 11:
		for range r.Intn(7) {
			l = append(l, pieces[r.Intn(len(pieces))])
		}
	}
	for r.Intn(25) == 0 && len(l) > 0 {
		l[r.Intn(len(l))] = pieces[r.Intn(len(pieces))]
	}
	return pick("|| |\t|  ") + strings.Join(l, pick(" | | |\t|  ")) + pick("||||| |#|# x")
}

func TestG3ReadWords(t *testing.T) {
	r := rand.New(rand.NewSource(74))
	right, wrong, refused := 0, 0, 0
	for range 40000 {
		s := "workout w\n"
		for range r.Intn(6) {
			s += randomLine(r) + "\n"
		}
		if r.Intn(4) == 0 {
			s = strings.TrimSuffix(s, "\n")
		}
		if r.Intn(20) == 0 {
			s = s[r.Intn(len(s)):]
		}
		name, l, line := slowRead(s)
		w, at, e := workout.Read(s)
		switch slow := (api.Workout{Name: name, Items: l}); {
		case line > 0:
			want(t, s, told(w, at, e), told("{ []}", line, 6))
			wrong++
		case slowCheck(slow) != api.OK:
			want(t, s, told(w, at, e), told("{ []}", 0, slowCheck(slow)))
			refused++
		default:
			want(t, s, told(w, at, e, workout.Same(w, slow)), told(slow, 0, 0, true))
			right++
		}
	}
	if right < 1000 || wrong < 1000 || refused < 1000 {
		t.Error("not often: ", right, wrong, refused)
	}
}

// TestG3Numbers reads all numbers of some lengths.
func TestG3Numbers(t *testing.T) {
	form := regexp.MustCompile(`^(?:` + count + `|` + pace + `)$`)
	for _, measure := range []string{"power", "pace"} {
		for n := range 20000 {
			s := strings.NewReplacer("a", ":", "b", "-", "c", "%").Replace(strconv.FormatInt(int64(n), 13))
			_, _, line := slowRead("workout w\nstep a for 5s " + measure + " " + s)
			if form.MatchString(s) && line > 0 && (measure == "pace") == strings.Contains(s, ":") {
				t.Error("a number that is right: ", s)
			}
			w, at, e := workout.Read("workout w\nramp a for 5s " + measure + " " + s)
			if line > 0 != (e == api.ErrSyntax) || at != line {
				t.Error(measure, s, w, at, e)
			}
		}
	}
}

func TestG4Print(t *testing.T) {
	for _, c := range []struct {
		what string
		w    api.Workout
		want string
	}{
		{"a step", workoutOf(easy()), "workout w\nstep easy for 1:00\n 0"},
		{"short and long", workoutOf(step("a", 9, api.Aim{}), step("b", 3599, api.Aim{}), step("c", 3600, api.Aim{}), step("d", 3599999, api.Aim{})), "workout w\nstep a for 0:09\nstep b for 59:59\nstep c for 1:00:00\nstep d for 999:59:59\n 0"},
		{"ways", workoutOf(over("a", 1, api.Aim{}), over("b", 4000, api.Aim{}), over("c", 9999, api.Aim{}), over("d", 10000, api.Aim{}), over("e", 421950, api.Aim{}), over("f", 12001, api.Aim{}), over("g", 1000000000, api.Aim{})),
			"workout w\nstep a over 0.1m\nstep b over 400m\nstep c over 999.9m\nstep d over 1km\nstep e over 42.195km\nstep f over 1.2001km\nstep g over 100000km\n 0"},
		{"aims", workoutOf(step("a", 9, watts(5, 5)), step("b", 9, watts(5, 6)), step("c", 9, aim(2, 100, 120)), step("d", 9, aim(3, 90, 90)), step("e", 9, aim(4, 185, 300)), step("f", 9, aim(4, 36000, 36000)), step("g", 9, aim(4, 1, 59))),
			"workout w\nstep a for 0:09 power 5\nstep b for 0:09 power 5-6\nstep c for 0:09 pulse 100-120\nstep d for 0:09 steps 90\nstep e for 0:09 pace 3:05-5:00\nstep f for 0:09 pace 600:00\nstep g for 0:09 pace 0:01-0:59\n 0"},
		{"percents", workoutOf(step("a", 9, percent(1, 5, 5)), step("b", 9, percent(2, 5, 300)), step("c", 9, percent(4, 90, 95)), step("d", 9, percent(4, 90, 90))),
			"workout w\nstep a for 0:09 power 5%\nstep b for 0:09 pulse 5-300%\nstep c for 0:09 pace 90-95%\nstep d for 0:09 pace 90%\n 0"},
		{"ramps", workoutOf(ramp("a", 9, watts(9, 5)), ramp("b", 9, watts(5, 5)), ramp("c", 9, percent(1, 9, 5)), api.Item{Kind: 2, Name: "d", Way: 50, Aim: aim(4, 60, 59)}),
			"workout w\nramp a for 0:09 power 9-5\nramp b for 0:09 power 5\nramp c for 0:09 power 9-5%\nramp d over 5m pace 1:00-0:59\n 0"},
		{"repeats", workoutOf(repeat(2, easy(), repeat(99, repeat(1, easy()), easy())), easy()),
			"workout w\nrepeat 2\n  step easy for 1:00\n  repeat 99\n    repeat 1\n      step easy for 1:00\n    end\n    step easy for 1:00\n  end\nend\nstep easy for 1:00\n 0"},
		{"no items", workoutOf(), " 13"},
		{"no name", api.Workout{Name: "a\nb", Items: many(1, easy())}, " 8"},
	} {
		s, e := workout.Print(c.w)
		want(t, c.what, told(s, e), c.want)
	}
}

// longWorkout is a workout whose text has so many bytes.
func longWorkout(size int) api.Workout {
	long := step(strings.Repeat("x", 60), 3599999, aim(4, 6000, 36000))
	w := workoutOf(many(200, long)...)
	for i := range w.Items {
		w.Items[i].Way, w.Items[i].Seconds = 123456789, 0
	}
	text := "workout w\n" + strings.Repeat("step "+long.Name+" over 12345.6789km pace 100:00-600:00\n", 200)
	for i := 0; len(text) > size; i++ {
		cut := min(len(text)-size, 59)
		w.Items[i].Name = w.Items[i].Name[cut:]
		text = text[cut:]
	}
	return w
}

func TestG4Size(t *testing.T) {
	s, e := workout.Print(longWorkout(workout.MaxSource))
	want(t, "as long as can be", told(len(s), e), told(workout.MaxSource, 0))
	w, _, e := workout.Read(s)
	want(t, "Read", told(workout.Same(w, longWorkout(workout.MaxSource)), e), "true 0")
	s, e = workout.Print(longWorkout(workout.MaxSource + 1))
	want(t, "one byte more", told(s, e), " 3")
	s, e = workout.Print(longWorkout(1 << 20))
	want(t, "many more", told(s, e), " 3")
}

// TestG4ReadOfPrint asks for what follows: Read of Print is the workout.
func TestG4ReadOfPrint(t *testing.T) {
	r := rand.New(rand.NewSource(75))
	for range 20000 {
		w := randomWorkout(r)
		s, e := workout.Print(w)
		x, line, e1 := workout.Read(s)
		want(t, fmt.Sprint(w), told(workout.Same(w, x), e, line, e1), "true 0 0 0")
		again, _ := workout.Print(x)
		want(t, "Print of Read", again, s)
	}
	for n := 1; n <= quant.MaxPace; n++ {
		w := workoutOf(step("a", n*99, aim(4, n, n)), over("a", n*n%quant.MaxDistance+1, api.Aim{}))
		s, _ := workout.Print(w)
		x, _, e := workout.Read(s)
		want(t, s, told(workout.Same(w, x), e), "true 0")
	}
}
