package workout

import (
	"strings"

	"harrier/api"
	"harrier/quant"
)

const (
	maxDigits = 6 // of a number
	maxMinute = 3 // digits of the minutes of a pace
)

// wrongLine is thrown at a line that cannot be read.
type wrongLine struct{ number int }

// A reader reads lines. The first one that is open is the workout, the others are the repeats that have no end yet.
type reader struct {
	number int
	words  []string // of this line, that are not taken yet
	name   string
	open   []api.Item
}

// Read reads a workout, or returns the number of the line that is wrong.
func Read(s string) (w api.Workout, line int, e api.Errno) {
	if len(s) > MaxSource {
		return api.Workout{}, 0, api.ErrSize
	}
	defer func() {
		if thrown := recover(); thrown != nil {
			w, line, e = api.Workout{}, thrown.(wrongLine).number, api.ErrSyntax
		}
	}()
	w = readLines(s)
	if e = Check(w); e != api.OK {
		return api.Workout{}, 0, e
	}
	return w, 0, api.OK
}

func readLines(s string) api.Workout {
	r := &reader{number: 1}
	forms := r.forms()
	for s != "" {
		line, rest, _ := strings.Cut(s, "\n")
		r.line(line, forms)
		r.number++
		s = rest
	}
	r.need(len(r.open) == 1)
	return api.Workout{Name: r.name, Items: r.open[0].Items}
}

// forms has what reads the words behind the first one of a line.
func (r *reader) forms() map[string]func() {
	return map[string]func(){
		"workout": r.workout,
		"step":    r.step,
		"ramp":    r.ramp,
		"repeat":  r.repeat,
		"end":     r.end,
	}
}

// need throws where something is not as it has to be.
func (r *reader) need(ok bool) {
	if !ok {
		panic(wrongLine{r.number})
	}
}

func (r *reader) line(text string, forms map[string]func()) {
	text, _, _ = strings.Cut(text, "#")
	r.words = strings.FieldsFunc(text, func(c rune) bool { return c == ' ' || c == '\t' })
	if len(r.words) == 0 {
		return
	}
	first := r.word()
	read, ok := forms[first]
	r.need(ok && (first == "workout") == (len(r.open) == 0))
	read()
	r.need(len(r.words) == 0)
}

// word takes the next word of the line.
func (r *reader) word() string {
	r.need(len(r.words) > 0)
	word := r.words[0]
	r.words = r.words[1:]
	return word
}

// add puts an item at the end of what is open.
func (r *reader) add(x api.Item) {
	inner := &r.open[len(r.open)-1]
	inner.Items = append(inner.Items, x)
}

func (r *reader) workout() {
	r.name = r.word()
	r.open = append(r.open, api.Item{})
}

func (r *reader) step() {
	x := r.timed(ItemStep)
	if len(r.words) > 0 {
		x.Aim = r.aim()
	}
	r.add(x)
}

func (r *reader) ramp() {
	x := r.timed(ItemRamp)
	x.Aim = r.aim()
	r.add(x)
}

func (r *reader) repeat() {
	times := r.count(r.word())
	r.open = append(r.open, api.Item{Kind: ItemRepeat, Times: times})
}

func (r *reader) end() {
	last := len(r.open) - 1
	r.need(last > 0)
	x := r.open[last]
	r.open = r.open[:last]
	r.add(x)
}

// timed reads a name and a length.
func (r *reader) timed(kind int) api.Item {
	x := api.Item{Kind: kind, Name: r.word()}
	e := api.ErrSyntax
	switch r.word() {
	case "for":
		x.Seconds, _, e = quant.ReadDuration(r.word())
	case "over":
		x.Way, _, e = quant.ReadDistance(r.word())
	}
	r.need(e == api.OK)
	return x
}

func (r *reader) aim() api.Aim {
	measure := r.measure()
	text, percent := strings.CutSuffix(r.word(), "%")
	first, second, two := strings.Cut(text, "-")
	if !two {
		second = first
	}
	read := r.count
	if measure == AimPace && !percent {
		read = r.pace
	}
	return api.Aim{Measure: measure, Percent: percent, Low: read(first), High: read(second)}
}

func (r *reader) measure() int {
	word := r.word()
	for n := AimPower; n <= AimPace; n++ {
		if measures[n].word == word {
			return n
		}
	}
	panic(wrongLine{r.number})
}

// count reads any number that is no pace.
func (r *reader) count(s string) int { return r.whole(s, maxDigits) }

// pace reads `M:SS`.
func (r *reader) pace(s string) int {
	minutes, seconds, _ := strings.Cut(s, ":")
	r.need(len(seconds) == 2)
	tens := r.whole(seconds[:1], 1)
	r.need(tens < 6)
	return 60*r.whole(minutes, maxMinute) + 10*tens + r.whole(seconds[1:], 1)
}

// whole reads a number of so many digits at most.
func (r *reader) whole(s string, most int) int {
	n, ok := quant.ReadWhole(s, most)
	r.need(ok)
	return n
}
