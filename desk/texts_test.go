package desk_test

import (
	"fmt"
	"math/rand"
	"reflect"
	"slices"
	"strings"
	"testing"

	"harrier/api"
	"harrier/desk"
)

func TestM1PrintActivity(t *testing.T) {
	want(t, "full", told(desk.PrintActivity(full())), told(fullText, 0))
	want(t, "nothing but a head", told(desk.PrintActivity(api.Activity{Name: "-", Sport: 5, Start: api.MaxMoment})), "activity - 5 86399999999\n 0")
	one := api.Activity{Name: "a", Sport: 1, Samples: []api.Sample{{Pulse: 0, Power: 3000, Steps: 300, Z: -100_000}}}
	want(t, "known numbers", told(desk.PrintActivity(one)), "activity a 1 0\nsample 0 0 0 -100000 0 3000 300\n 0")
}

func TestM1PrintSegment(t *testing.T) {
	want(t, "a segment", told(desk.PrintSegment(segment())), told(segmentText, 0))
	s := segment()
	s.Name, s.Gates = "", s.Gates[:1]
	want(t, "no name", told(desk.PrintSegment(s)), " 8")
	s.Name = "s"
	want(t, "one gate", told(desk.PrintSegment(s)), " 3")
	want(t, "nothing", told(desk.PrintSegment(api.Segment{})), " 8")
	s = segment()
	s.Gates[1].A.X--
	want(t, "a place that is too far", told(desk.PrintSegment(s)), " 9")
	s.Gates[1].A = s.Gates[1].B
	want(t, "no gate", told(desk.PrintSegment(s)), " 2")
}

// TestM1WrongActivities has one thing wrong after the other, and all that was wrong before too.
func TestM1WrongActivities(t *testing.T) {
	a := full()
	for _, c := range []struct {
		wanted string
		spoil  func()
	}{
		{fullText + " 0", func() {}},
		{" 10", func() { a.Tags[1] = "-" }},
		{" 10", func() { a.Laps[1].From = 4 }},
		{" 8", func() { a.Laps[0].Name = "\x7f" }},
		{" 9", func() { a.Laps[0].To = 0 }},
		{" 9", func() { a.Samples[1].Steps = 301 }},
		{" 10", func() { a.Samples[0].At = 1 }},
		{" 3", func() { a.Tags = slices.Repeat([]string{"x"}, 21) }},
		{" 9", func() { a.Start = -1 }},
		{" 7", func() { a.Sport = 6 }},
		{" 8", func() { a.Name = "a b" }},
	} {
		c.spoil()
		want(t, fmt.Sprint(a), told(desk.PrintActivity(a)), c.wanted)
	}
}

func TestM1ReadActivity(t *testing.T) {
	want(t, "full", readActivity(fullText), told(full(), "0 0"))
	want(t, "nothing but a head", readActivity("activity a 1 0\n"), "{a 1 0 [] [] []} 0 0")
	want(t, "laps alone", readActivity("activity a 1 0\nlap 0 1 \n"), noActivity+"0 9")
	want(t, "a sample alone", readActivity("activity a 1 0\nsample 0 0 0 0 - - -\n"), "{a 1 0 [{0 0 0 0 -1 -1 -1}] [] []} 0 0")
	want(t, "tags alone", readActivity("activity a 1 0\ntag a\ntag b\n"), "{a 1 0 [] [] [a b]} 0 0")
}

func TestM1ReadPrinted(t *testing.T) {
	r := rand.New(rand.NewSource(131))
	for range 3000 {
		a := randomActivity(r, "a")
		text, e := desk.PrintActivity(a)
		want(t, fmt.Sprint(a), told(e), "0")
		want(t, text, readActivity(text), told(a, 0, 0))
		s := api.Segment{Name: "s"}
		for range 2 + r.Intn(4) {
			place := func() int { return r.Intn(2_001) - 1_000 }
			s.Gates = append(s.Gates, api.Gate{A: api.Point{X: place(), Y: place()}, B: api.Point{X: place(), Y: place()}})
		}
		text, e = desk.PrintSegment(s)
		want(t, fmt.Sprint(s), told(e), "0")
		want(t, text, readSegment(text), told(s, 0, 0))
	}
}

// TestM1WrongLines has lines that are wrong behind one that is right.
func TestM1WrongLines(t *testing.T) {
	for _, s := range []string{
		"", " ", "x", "0", "-", ".", "activity a 1 100", "activity b 1 100", "segment s", "tags x", "Tag x", " tag x", "\ttag x", "tag\tx", "tag", "tag ", "tag  x", "tag x ", "tag x y", "tag: x", "tag x\ty z",
		"lap", "lap ", "lap 0", "lap 0 ", "lap 0 5", "lap  0 5 ", "lap 0  5 ", "lap 0 - x", "lap - 5 x", "lap -1 5 x", "lap 0 -5 x", "lap 00 5 x", "lap 0 05 x", "lap a 5 x", "lap 0 5a x", "lap +0 5 x", "lap 1234567890123 5 x", "lap 0 1234567890123 x", "laps 0 5 x", " lap 0 5 x", "lap 0 5\tx",
		"sample", "sample ", "sample 0", "sample 0 0 0 0 - -", "sample 0 0 0 0 - - - -", "sample 0 0 0 0 - - - ", "sample  0 0 0 0 - - -", "sample 0  0 0 0 - - -", "sample 0 0 0 0 - -  -", "sample - 0 0 0 - - -", "sample -1 0 0 0 - - -", "sample 0 - 0 0 - - -", "sample 0 0 - 0 - - -", "sample 0 0 0 - - - -", "sample 0 -0 0 0 - - -", "sample 0 0 -0 0 - - -", "sample 0 0 0 -0 - - -", "sample 0 0 0 -01 - - -", "sample 0 01 0 0 - - -", "sample 0 0 0 0 -1 - -", "sample 0 0 0 0 - -1 -", "sample 0 0 0 0 - - -1", "sample 0 0 0 0 -- - -", "sample 0 0 0 0 01 - -", "sample 0 0 0 0 - 1.0 -", "sample 0 0 0 0 - - x", "sample 00 0 0 0 - - -", "sample 0 +1 0 0 - - -", "sample 0 0 0 0 \u0661 - -", "sample 1234567890123 0 0 0 - - -", "sample 0 -1234567890123 0 0 - - -", "sample 0 0 0 1234567890123 - - -", "sample 0 0 0 0 1234567890123 - -", "samples 0 0 0 0 - - -", "Sample 0 0 0 0 - - -", "sample 0 0 0 0 - - -\r",
	} {
		want(t, s, readActivity("activity a 1 100\n"+s+"\n"), noActivity+"2 6")
		want(t, s+", with others behind", readActivity("activity a 1 100\n"+s+"\nx\n"), noActivity+"2 6")
	}
	for _, s := range []string{"", "x", "tag x", "sample 0 0 0 0 - - -", "activity", "activity ", "activity a", "activity a 1", "activity a 1 ", "activity  1 100", "activity a 1  100", "activity a  1 100", "activity a 1 100 ", "activity a 1 100 0", "activity a b 1 100", "activity a 1 0100", "activity a 01 100", "activity a 1 -100", "activity a -1 100", "activity a 1 -", "activity a - 1", "activity a 1 1234567890123", "activity a 1234567890123 1", "activities a 1 100", "Activity a 1 100", " activity a 1 100", "activity\ta 1 100", "segment a 1 100", "activity a 1 100\r"} {
		want(t, s, readActivity(s+"\n"), noActivity+"1 6")
		want(t, s+", with another one behind", readActivity(s+"\nactivity a 1 100\n"), noActivity+"1 6")
	}
}

func TestM1EndsOfLines(t *testing.T) {
	want(t, "no lines", readActivity(""), noActivity+"1 6")
	lines := strings.SplitAfter(strings.TrimSuffix(fullText, "\n"), "\n")
	for i, line := range lines {
		want(t, line+", without an end", readActivity(strings.Join(lines[:i], "")+strings.TrimSuffix(line, "\n")), noActivity+told(1+i, 6))
	}
	want(t, "a segment without lines", readSegment(""), noSegment+"1 6")
	lines = strings.SplitAfter(strings.TrimSuffix(segmentText, "\n"), "\n")
	for i, line := range lines {
		want(t, line+", without an end", readSegment(strings.Join(lines[:i], "")+strings.TrimSuffix(line, "\n")), noSegment+told(1+i, 6))
	}
}

// TestM1Order has each kind of lines behind each other one.
func TestM1Order(t *testing.T) {
	kinds := []string{"activity a 1 100\n", "tag x\n", "lap 0 5 \n", "sample 0 0 0 0 - - -\n"}
	for i, before := range kinds {
		for k, behind := range kinds {
			got := readActivity(kinds[0] + before + behind + "x\n")
			switch {
			case i == 0:
				want(t, before+behind, got, noActivity+"2 6")
			case k < i:
				want(t, before+behind, got, noActivity+"3 6")
			default:
				want(t, before+behind, got, noActivity+"4 6")
			}
		}
	}
	want(t, "segments", readSegment("segment s\nsegment s\n"), noSegment+"2 6")
	want(t, "a segment behind a gate", readSegment("segment s\ngate 0 0 0 1\nsegment s\n"), noSegment+"3 6")
	want(t, "a gate alone", readSegment("gate 0 0 0 1\ngate 0 0 0 1\n"), noSegment+"1 6")
}

// TestM1ReadWrongActivities has texts that have their form, but tell of what can't be.
func TestM1ReadWrongActivities(t *testing.T) {
	for _, c := range [][2]string{
		{"activity a/b 6 100\n", "0 8"},
		{"activity a 6 86400000000\n", "0 7"},
		{"activity a 0 100\n", "0 7"},
		{"activity a 1 86400000000\n", "0 9"},
		{"activity a 999999999999 100\n", "0 7"},
		{"activity a 1 999999999999\n", "0 9"},
		{"activity " + strings.Repeat("a", 61) + " 1 100\n", "0 8"},
		{"activity a 1 0\nsample 5 0 0 0 - - -\n", "0 10"},
		{"activity a 1 0\nsample 0 0 0 0 - - -\nsample 0 0 0 0 - - -\n", "0 10"},
		{"activity a 1 0\nsample 0 100000001 0 0 - - -\n", "0 9"},
		{"activity a 1 0\nsample 0 -999999999999 0 0 - - -\n", "0 9"},
		{"activity a 1 0\nsample 0 0 999999999999 0 - - -\n", "0 9"},
		{"activity a 1 0\nsample 0 0 0 -100001 - - -\n", "0 9"},
		{"activity a 1 0\nsample 0 0 0 0 301 - -\n", "0 9"},
		{"activity a 1 0\nsample 0 0 0 0 - 3001 -\n", "0 9"},
		{"activity a 1 0\nsample 0 0 0 0 - - 999999999999\n", "0 9"},
		{"activity a 1 0\ntag b\ntag a\n", "0 10"},
		{"activity a 1 0\ntag b\ntag b\n", "0 10"},
		{"activity a 1 0\ntag a/b\n", "0 8"},
		{"activity a 1 0\nlap 0 5 l\nsample 0 0 0 0 - - -\nsample 4 0 0 0 - - -\n", "0 9"},
		{"activity a 1 0\nlap 0 3 l\nlap 2 4 l\nsample 0 0 0 0 - - -\nsample 4 0 0 0 - - -\n", "0 10"},
		{"activity a 1 0\nlap 0 4 \x7f\nsample 0 0 0 0 - - -\nsample 4 0 0 0 - - -\n", "0 8"},
		{"activity a 1 0\nlap 0 4 " + strings.Repeat(" ", 61) + "\nsample 0 0 0 0 - - -\nsample 4 0 0 0 - - -\n", "0 8"},
		{"activity a/b 1 100\nx\n", "2 6"},
	} {
		want(t, c[0], readActivity(c[0]), noActivity+c[1])
	}
	a := api.Activity{Name: "a", Sport: 1}
	for i := range api.MaxSamples {
		a.Samples = append(a.Samples, sample(i, -100_000_000, -100_000_000, -100_000))
	}
	text, e := desk.PrintActivity(a)
	want(t, "many samples", told(e), "0")
	want(t, "many samples, read", readActivity(text), told(a, 0, 0))
	want(t, "one more", readActivity(text+"sample 20000 0 0 0 - - -\n"), noActivity+"0 3")
}

func TestM1Long(t *testing.T) {
	for _, c := range []struct {
		ahead, behind, wanted, wantedSegment string
	}{
		{"x", "", noActivity + "1 6", noSegment + "1 6"},
		{"activity ", " 1 100\n", noActivity + "0 8", noSegment + "1 6"},
		{"segment ", "\ngate 0 0 0 1\n", noActivity + "1 6", noSegment + "0 8"},
		{"activity a 1 100\ntag ", "\n", noActivity + "0 8", noSegment + "1 6"},
	} {
		middle := strings.Repeat("y", desk.MaxInput-len(c.ahead)-len(c.behind))
		want(t, c.ahead, readActivity(c.ahead+middle+c.behind), c.wanted)
		want(t, c.ahead+", longer", readActivity(c.ahead+middle+"y"+c.behind), noActivity+"0 3")
		want(t, c.ahead+", a segment", readSegment(c.ahead+middle+c.behind), c.wantedSegment)
		want(t, c.ahead+", a longer segment", readSegment(c.ahead+middle+"y"+c.behind), noSegment+"0 3")
	}
}

func TestM1ReadSegment(t *testing.T) {
	want(t, "a segment", readSegment(segmentText), told(segment(), "0 0"))
	for _, s := range []string{"", "x", "gate", "gate ", "gate 0 0 0", "gate 0 0 0 ", "gate 0 0 0 1 2", "gate 0 0 0 1 ", "gate  0 0 0 1", "gate 0 0  0 1", "gate 0 0 0 -", "gate - 0 0 1", "gate 0 0 0 -0", "gate 00 0 0 1", "gate 0 01 0 1", "gate 0 0 -01 1", "gate 0 0 0 +1", "gate 0 0 0 a", "gate 1234567890123 0 0 1", "gate 0 0 0 -1234567890123", "gates 0 0 0 1", "Gate 0 0 0 1", " gate 0 0 0 1", "gate\t0 0 0 1", "tag x", "activity a 1 100", "gate 0 0 0 1\r"} {
		want(t, s, readSegment("segment s\ngate 0 0 0 1\n"+s+"\n"), noSegment+"3 6")
	}
	for _, s := range []string{"", "x", "segment", "segment ", "segment  s", "segment s ", "segment s t", "segments s", "Segment s", " segment s", "segment\ts", "activity a 1 100"} {
		want(t, s, readSegment(s+"\ngate 0 0 0 1\ngate 0 0 0 1\n"), noSegment+"1 6")
	}
	for _, c := range [][2]string{
		{"segment s\n", "0 3"},
		{"segment s\ngate 0 0 0 1\n", "0 3"},
		{"segment s/t\n", "0 8"},
		{"segment s\ngate 0 0 0 1\ngate 0 0 0 0\n", "0 2"},
		{"segment s\ngate 0 0 0 1\ngate 0 0 0 100000001\n", "0 9"},
		{"segment s\ngate -999999999999 0 0 999999999999\ngate 0 0 0 0\n", "0 9"},
		{"segment s\n" + strings.Repeat("gate 0 0 0 1\n", 51), "0 3"},
	} {
		want(t, c[0], readSegment(c[0]), noSegment+c[1])
	}
	x, line, e := desk.ReadSegment("segment s\n" + strings.Repeat("gate 0 0 0 1\n", 50))
	want(t, "many gates", told(len(x.Gates), line, e), "50 0 0")
}

// TestM1Arguments asks whether what is printed stays as it was.
func TestM1Arguments(t *testing.T) {
	a, s := full(), segment()
	desk.PrintActivity(a)
	desk.PrintSegment(s)
	if !reflect.DeepEqual(a, full()) || !reflect.DeepEqual(s, segment()) {
		t.Error("arguments were changed")
	}
	x, _, _ := desk.ReadActivity(fullText)
	y, _, _ := desk.ReadActivity(fullText)
	x.Samples[0].X, x.Laps[0].To, x.Tags[0] = 9, 9, "9"
	want(t, "read again", told(y), told(full()))
	g, _, _ := desk.ReadSegment(segmentText)
	h, _, _ := desk.ReadSegment(segmentText)
	g.Gates[0].A.X = 9
	want(t, "a segment, read again", told(h), told(segment()))
}
