package trail

import (
	"strconv"
	"strings"

	"harrier/api"
	"harrier/quant"
)

// Print writes a line for each edit.
func Print(l []api.Edit) (string, api.Errno) {
	if e := checkEdits(l); e != api.OK {
		return "", e
	}
	var b strings.Builder
	for _, x := range l {
		b.WriteString(strings.Join(wordsOf(x), " ") + "\n")
	}
	return b.String(), api.OK
}

func wordsOf(x api.Edit) []string {
	words := []string{kinds[x.Kind].word}
	for _, field := range []byte(kinds[x.Kind].fields) {
		if field == 's' {
			words = append(words, x.Text)
		} else {
			words = append(words, strconv.Itoa(*numberIn(&x, field)))
		}
	}
	return words
}

// Read reads what Print writes, or returns the number of the line that is wrong.
func Read(s string) (l []api.Edit, line int, e api.Errno) {
	if len(s) > maxText {
		return nil, 0, api.ErrSize
	}
	for line = 1; s != ""; line++ {
		text, rest, ended := strings.Cut(s, "\n")
		x, ok := readLine(text)
		if !ended || !ok {
			return nil, line, api.ErrSyntax
		}
		l = append(l, x)
		s = rest
	}
	if e = checkEdits(l); e != api.OK {
		return nil, 0, e
	}
	return l, 0, api.OK
}

// readLine reads a line without its end.
func readLine(line string) (x api.Edit, ok bool) {
	word, _, _ := strings.Cut(line, " ")
	x.Kind = kindOf(word)
	fields := kinds[x.Kind].fields
	// Without a kind there are no fields, and the line is left as one word.
	words := strings.SplitN(line, " ", 1+len(fields))[1:]
	if len(words) == 0 || len(words) != len(fields) {
		return x, false
	}
	for i, word := range words {
		if !readField(&x, fields[i], word) {
			return x, false
		}
	}
	return x, true
}

// kindOf returns the kind with a word, or 0.
func kindOf(word string) int {
	for n := EditName; n <= EditUnlap; n++ {
		if kinds[n].word == word {
			return n
		}
	}
	return 0
}

func readField(x *api.Edit, field byte, word string) (ok bool) {
	if field == 's' {
		x.Text = word
		return x.Kind == EditLap || word != "" && !strings.Contains(word, " ")
	}
	read := quant.ReadWhole
	if kinds[x.Kind].low < 0 {
		read = quant.ReadSigned
	}
	*numberIn(x, field), ok = read(word, maxDigits)
	return ok
}
