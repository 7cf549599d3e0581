package veil

import (
	"strconv"
	"strings"

	"harrier/api"
	"harrier/quant"
)

const maxDigits = 9 // of a number

// levels has the words of levels.
var levels = [...]string{1: "friend", 2: "club", 3: "all"}

// fields has the words of rules of VeilField.
var fields = [...]string{api.FieldPulse: "pulse", api.FieldPower: "power", api.FieldSteps: "steps", api.FieldHeight: "height"}

// Print writes a line for each rule.
func Print(v api.Veil) (string, api.Errno) {
	if e := Check(v); e != api.OK {
		return "", e
	}
	var b strings.Builder
	for _, r := range v.Rules {
		b.WriteString(strings.Join(wordsOf(r), " ") + "\n")
	}
	return b.String(), api.OK
}

func wordsOf(r api.VeilRule) []string {
	if r.Kind == api.VeilField {
		return []string{levels[r.From], fields[r.N]}
	}
	k := kinds()[r.Kind]
	words := []string{levels[r.From], k.word}
	for _, field := range []byte(k.fields) {
		if field == 's' {
			words = append(words, r.Text)
		} else {
			words = append(words, strconv.Itoa(*numberIn(&r, field)))
		}
	}
	return words
}

// Read reads a veil, or returns the number of the line that is wrong.
func Read(text string) (api.Veil, int, api.Errno) {
	if len(text) > MaxText {
		return api.Veil{}, 0, api.ErrSize
	}
	var v api.Veil
	for line := 0; text != ""; line++ {
		this, rest, _ := strings.Cut(text, "\n")
		words := strings.FieldsFunc(this, func(c rune) bool { return c == ' ' })
		if len(words) > 0 {
			r, ok := readRule(words)
			if !ok {
				return api.Veil{}, line, api.ErrSyntax
			}
			v.Rules = append(v.Rules, r)
		}
		text = rest
	}
	if e := Check(v); e != api.OK {
		return api.Veil{}, 0, e
	}
	return v, 0, api.OK
}

// readRule has one word or more.
func readRule(words []string) (r api.VeilRule, ok bool) {
	if len(words) < 2 {
		return r, false
	}
	r.From = levelOf(words[0])
	what, rest := words[1], words[2:]
	if r.N = fieldOf(what); r.N > 0 {
		r.Kind = api.VeilField
		return r, r.From > 0 && len(rest) == 0
	}
	r.Kind = kindOf(what)
	return r, r.From > 0 && r.Kind > 0 && readFields(rest, &r)
}

// levelOf returns the level with a word, or 0.
func levelOf(word string) int {
	for n := 1; n <= MaxLevel; n++ {
		if levels[n] == word {
			return n
		}
	}
	return 0
}

// fieldOf returns the field with a word, or 0.
func fieldOf(word string) int {
	for n := api.FieldPulse; n <= api.FieldHeight; n++ {
		if fields[n] == word {
			return n
		}
	}
	return 0
}

// kindOf returns the kind with a word, or 0. The word is not empty.
func kindOf(word string) int {
	for n, k := range kinds() {
		if k.word == word {
			return n
		}
	}
	return 0
}

// readFields fills the fields that the kind of the rule uses.
func readFields(words []string, r *api.VeilRule) bool {
	names := kinds()[r.Kind].fields
	if len(words) != len(names) {
		return false
	}
	for i, word := range words {
		ok := true
		if names[i] == 's' {
			r.Text = word
		} else {
			*numberIn(r, names[i]), ok = quant.ReadSigned(word, maxDigits)
		}
		if !ok {
			return false
		}
	}
	return true
}
