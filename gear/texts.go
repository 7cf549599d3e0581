package gear

import (
	"slices"
	"strconv"
	"strings"

	"harrier/api"
	"harrier/quant"
)

const (
	maxText   = 1_000_000 // bytes
	maxDigits = 12        // of a number
	openWord  = "-"
)

// Print writes a line for each part, slot, mount and use.
func Print(g api.Garage) (string, api.Errno) {
	if e := Check(g); e != api.OK {
		return "", e
	}
	var b strings.Builder
	line := func(words ...string) { b.WriteString(strings.Join(words, " ") + "\n") }
	for _, x := range g.Parts {
		line("part", x.Name, strconv.Itoa(x.Cost))
	}
	for _, x := range g.Slots {
		line("slot", x.Name, x.Rig)
	}
	for _, x := range g.Mounts {
		line("mount", x.Slot, x.Part, strconv.Itoa(x.From), endText(x.To))
	}
	for _, x := range g.Uses {
		line("use", x.Name, x.Rig, strconv.Itoa(x.From), strconv.Itoa(x.Seconds), strconv.Itoa(x.Way))
	}
	if b.Len() > maxText {
		return "", api.ErrSize
	}
	return b.String(), api.OK
}

func endText(to int) string {
	if to == open {
		return openWord
	}
	return strconv.Itoa(to)
}

// A reader has what it read up to now, and the number of the kind of the last line.
type reader struct {
	garage api.Garage
	kind   int
}

// Read reads what Print writes, or returns the number of the line that is wrong.
func Read(s string) (g api.Garage, line int, e api.Errno) {
	if len(s) > maxText {
		return api.Garage{}, 0, api.ErrSize
	}
	r := &reader{}
	for line = 1; s != ""; line++ {
		text, rest, ended := strings.Cut(s, "\n")
		if !ended || !r.line(text) {
			return api.Garage{}, line, api.ErrSyntax
		}
		s = rest
	}
	if e = Check(r.garage); e != api.OK {
		return api.Garage{}, 0, e
	}
	return r.garage, 0, api.OK
}

// line reports whether a line has its form, and can stand where it stands.
func (r *reader) line(text string) bool {
	words := strings.Split(text, " ")
	kind := slices.Index([]string{"part", "slot", "mount", "use"}, words[0])
	// All kinds of lines have two words or more behind the first one.
	if kind < r.kind || len(words) < 3 || slices.Contains(words, "") {
		return false
	}
	r.kind = kind
	g, ok := &r.garage, false
	switch words[0] {
	case "part":
		x := api.GearPart{Name: words[1]}
		ok = quant.ReadWholes(words[2:], maxDigits, &x.Cost)
		g.Parts = append(g.Parts, x)
	case "slot":
		ok = len(words) == 3
		g.Slots = append(g.Slots, api.Slot{Name: words[1], Rig: words[2]})
	case "mount":
		x := api.Mount{Slot: words[1], Part: words[2]}
		ok = readTimes(words[3:], &x)
		g.Mounts = append(g.Mounts, x)
	case "use":
		x := api.Use{Name: words[1], Rig: words[2]}
		ok = quant.ReadWholes(words[3:], maxDigits, &x.From, &x.Seconds, &x.Way)
		g.Uses = append(g.Uses, x)
	}
	return ok
}

// readTimes reads From and To.
func readTimes(words []string, x *api.Mount) bool {
	if len(words) == 2 && words[1] == openWord {
		x.To = open
		return quant.ReadWholes(words[:1], maxDigits, &x.From)
	}
	return quant.ReadWholes(words, maxDigits, &x.From, &x.To)
}
