package season

import (
	"strconv"
	"strings"

	"harrier/api"
	"harrier/quant"
)

const maxDigits = 9 // of a number

// Print writes a line for the season, for each session, and for each rule.
func Print(s api.Season) (string, api.Errno) {
	if e := Check(s); e != api.OK {
		return "", e
	}
	b := appendNumbers([]byte("season"), s.First, s.Days, s.Before)
	b = append(b, '\n')
	for _, x := range s.Sessions {
		b = appendNumbers(append(b, "session "+x.Name...), x.Load, x.Minutes, x.Worth)
		if x.Hard {
			b = append(b, " hard"...)
		}
		b = append(b, '\n')
	}
	for _, r := range s.Rules {
		b = appendRule(b, r)
	}
	return string(b), api.OK
}

// appendNumbers writes numbers, each with a blank ahead.
func appendNumbers(b []byte, l ...int) []byte {
	for _, n := range l {
		b = strconv.AppendInt(append(b, ' '), int64(n), 10)
	}
	return b
}

func appendRule(b []byte, r api.Rule) []byte {
	kind := kinds[r.Kind]
	b = append(b, kind.word...)
	for _, field := range []byte(kind.fields) {
		if field != 's' {
			b = appendNumbers(b, *numberIn(&r, field))
		} else if r.Name != "" {
			b = append(b, " "+r.Name...)
		}
	}
	return append(b, '\n')
}

// A reader has what it read up to now; begun: there was the line of the season.
type reader struct {
	season api.Season
	begun  bool
}

// Read reads a season, or returns the number of the line that is wrong.
func Read(text string) (api.Season, int, api.Errno) {
	if len(text) > MaxText {
		return api.Season{}, 0, api.ErrSize
	}
	r := &reader{}
	line := 0
	for ; text != ""; line++ {
		this, rest, _ := strings.Cut(text, "\n")
		if !r.line(this) {
			return api.Season{}, line, api.ErrSyntax
		}
		text = rest
	}
	if !r.begun {
		return api.Season{}, line, api.ErrSyntax
	}
	if e := Check(r.season); e != api.OK {
		return api.Season{}, 0, e
	}
	return r.season, 0, api.OK
}

// line reports whether a line has its form, and can stand where it stands.
func (r *reader) line(text string) bool {
	words := strings.FieldsFunc(text, func(c rune) bool { return c == ' ' })
	if len(words) == 0 {
		return true
	}
	first, rest := words[0], words[1:]
	if (first == "season") == r.begun {
		return false
	}
	switch first {
	case "season":
		r.begun = true
		return quant.ReadWholes(rest, maxDigits, &r.season.First, &r.season.Days, &r.season.Before)
	case "session":
		return len(r.season.Rules) == 0 && r.session(rest)
	}
	return r.rule(first, rest)
}

func (r *reader) session(words []string) bool {
	var x api.Session
	if len(words) == 5 && words[4] == "hard" {
		x.Hard, words = true, words[:4]
	}
	if len(words) == 0 || !quant.ReadWholes(words[1:], maxDigits, &x.Load, &x.Minutes, &x.Worth) {
		return false
	}
	x.Name = words[0]
	r.season.Sessions = append(r.season.Sessions, x)
	return true
}

// rule reads the words behind the first one.
func (r *reader) rule(first string, words []string) bool {
	x := api.Rule{Kind: kindOf(first)}
	if !isKind(x.Kind) {
		return false
	}
	fields := kinds[x.Kind].fields
	if x.Kind == api.RuleFixed && len(words) == 1 {
		fields = "d"
	}
	if len(words) != len(fields) {
		return false
	}
	for i, word := range words {
		if fields[i] == 's' {
			x.Name = word
		} else if !quant.ReadWholes([]string{word}, maxDigits, numberIn(&x, fields[i])) {
			return false
		}
	}
	r.season.Rules = append(r.season.Rules, x)
	return true
}

// kindOf returns the kind of rule with a word, or no kind.
func kindOf(word string) int {
	for n := api.RuleOff; n <= api.RuleTaper; n++ {
		if kinds[n].word == word {
			return n
		}
	}
	return 0
}
