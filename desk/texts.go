package desk

import (
	"cmp"
	"slices"
	"strconv"
	"strings"

	"harrier/api"
	"harrier/match"
	"harrier/quant"
	"harrier/record"
)

const (
	maxDigits = 12  // of a number
	nothing   = "-" // what is not known, or not there
)

// appendNumbers writes numbers, each with a blank ahead.
func appendNumbers(b []byte, l ...int) []byte {
	for _, n := range l {
		b = strconv.AppendInt(append(b, ' '), int64(n), 10)
	}
	return b
}

// appendLine writes a line of words and numbers.
func appendLine(b []byte, words string, numbers ...int) []byte {
	return append(appendNumbers(append(b, words...), numbers...), '\n')
}

// numberLine returns a line of one number or more.
func numberLine(l ...int) string { return string(appendLine(nil, strconv.Itoa(l[0]), l[1:]...)) }

// measuredText writes a number that is not known if it is below 0.
func measuredText(n int) string {
	if n < 0 {
		return nothing
	}
	return strconv.Itoa(n)
}

// PrintActivity writes a line for an activity, and for each of its tags, laps and samples.
func PrintActivity(a api.Activity) (string, api.Errno) {
	if e := record.Check(a); e != api.OK {
		return "", e
	}
	b := appendLine(nil, "activity "+a.Name, a.Sport, a.Start)
	for _, tag := range a.Tags {
		b = appendLine(b, "tag "+tag)
	}
	for _, x := range a.Laps {
		b = appendNumbers(append(b, "lap"...), x.From, x.To)
		b = appendLine(b, " "+x.Name)
	}
	for _, x := range a.Samples {
		b = appendNumbers(append(b, "sample"...), x.At, x.X, x.Y, x.Z)
		b = appendLine(b, " "+measuredText(x.Pulse)+" "+measuredText(x.Power)+" "+measuredText(x.Steps))
	}
	return string(b), api.OK
}

// PrintSegment writes a line for a segment, and for each of its gates.
func PrintSegment(s api.Segment) (string, api.Errno) {
	if e := match.CheckSegment(s); e != api.OK {
		return "", e
	}
	b := appendLine(nil, "segment "+s.Name)
	for _, g := range s.Gates {
		b = appendLine(b, "gate", g.A.X, g.A.Y, g.B.X, g.B.Y)
	}
	return string(b), api.OK
}

// A kind of lines has their first word, and reads what is behind it.
type kind struct {
	word string
	read func(rest string) bool
}

// readLines reads lines of some kinds in their order: first a single one of the first kind, then any number of each other kind. It returns the number of the line that is wrong.
func readLines(s string, kinds []kind) (line int, e api.Errno) {
	if len(s) > MaxInput {
		return 0, api.ErrSize
	}
	last := 0
	for line = 1; line == 1 || s != ""; line++ {
		text, behind, ended := strings.Cut(s, "\n")
		word, rest, _ := strings.Cut(text, " ")
		n := slices.IndexFunc(kinds, func(k kind) bool { return k.word == word })
		if !ended || n < last || (n == 0) != (line == 1) || !kinds[n].read(rest) {
			return line, api.ErrSyntax
		}
		last, s = n, behind
	}
	return 0, api.OK
}

// ReadActivity reads what PrintActivity writes, or returns the number of the line that is wrong.
func ReadActivity(s string) (a api.Activity, line int, e api.Errno) {
	r := &activityReader{}
	line, e = readLines(s, []kind{{"activity", r.head}, {"tag", r.tag}, {"lap", r.lap}, {"sample", r.sample}})
	if e = cmp.Or(e, record.Check(r.activity)); e != api.OK {
		return api.Activity{}, line, e
	}
	return r.activity, 0, api.OK
}

// An activityReader has the activity as far as it was read. Its methods read what is behind the first word of a line.
type activityReader struct{ activity api.Activity }

func (r *activityReader) head(rest string) bool {
	words := strings.Split(rest, " ")
	a := &r.activity
	a.Name = words[0]
	return a.Name != "" && readEach(words[1:], quant.ReadWhole, &a.Sport, &a.Start)
}

func (r *activityReader) tag(rest string) bool {
	r.activity.Tags = append(r.activity.Tags, rest)
	return isWord(rest)
}

func (r *activityReader) lap(rest string) bool {
	words := strings.SplitN(rest, " ", 3)
	if len(words) < 3 {
		return false
	}
	x := api.Lap{Name: words[2]}
	ok := readEach(words[:2], quant.ReadWhole, &x.From, &x.To)
	r.activity.Laps = append(r.activity.Laps, x)
	return ok
}

func (r *activityReader) sample(rest string) bool {
	words := strings.Split(rest, " ")
	if len(words) != 7 {
		return false
	}
	var x api.Sample
	ok := readEach(words[:1], quant.ReadWhole, &x.At) &&
		readEach(words[1:4], quant.ReadSigned, &x.X, &x.Y, &x.Z) &&
		readEach(words[4:], readMeasured, &x.Pulse, &x.Power, &x.Steps)
	r.activity.Samples = append(r.activity.Samples, x)
	return ok
}

// readMeasured reads a number of at most so many digits, or that it is not known.
func readMeasured(word string, most int) (int, bool) {
	if word == nothing {
		return -1, true
	}
	return quant.ReadWhole(word, most)
}

// readEach reports whether words are just as many numbers, as a function reads them, as it has places for.
func readEach(words []string, read func(word string, most int) (int, bool), into ...*int) bool {
	if len(words) != len(into) {
		return false
	}
	for i, word := range words {
		ok := false
		if *into[i], ok = read(word, maxDigits); !ok {
			return false
		}
	}
	return true
}

// ReadSegment reads what PrintSegment writes, or returns the number of the line that is wrong.
func ReadSegment(s string) (x api.Segment, line int, e api.Errno) {
	line, e = readLines(s, []kind{
		{"segment", func(rest string) bool {
			x.Name = rest
			return isWord(rest)
		}},
		{"gate", func(rest string) bool {
			var g api.Gate
			ok := readEach(strings.Split(rest, " "), quant.ReadSigned, &g.A.X, &g.A.Y, &g.B.X, &g.B.Y)
			x.Gates = append(x.Gates, g)
			return ok
		}},
	})
	if e = cmp.Or(e, match.CheckSegment(x)); e != api.OK {
		return api.Segment{}, line, e
	}
	return x, 0, api.OK
}

func isWord(s string) bool { return s != "" && !strings.Contains(s, " ") }
