package record

import (
	"strconv"
	"strings"

	"harrier/api"
	"harrier/quant"
)

const (
	hexDigits = "0123456789abcdef"
	maxDigits = 9 // of a number
)

// Print writes a line for each entry.
func Print(f api.File) (string, api.Errno) {
	if e := CheckFile(f); e != api.OK {
		return "", e
	}
	var b []byte
	for _, x := range f.Entries {
		b = appendLine(b, x)
		if len(b) > MaxText {
			return "", api.ErrSize
		}
	}
	return string(b), api.OK
}

func appendLine(b []byte, x api.Entry) []byte {
	switch x.Kind {
	case api.EntryDefine:
		b = appendDefLine(b, x.Slot, x.Define[0])
	case api.EntryShort:
		b = appendNumbers(append(b, "short"...), ' ', x.Slot, x.Offset)
		b = appendHex(b, x.Data)
	default:
		b = appendNumbers(append(b, "data"...), ' ', x.Slot)
		b = appendHex(b, x.Data)
	}
	return append(b, '\n')
}

func appendDefLine(b []byte, slot int, d api.Def) []byte {
	b = appendNumbers(append(b, "define"...), ' ', slot, d.Global)
	order := " little"
	if d.Big {
		order = " big"
	}
	b = append(b, order...)
	for _, x := range d.Fields {
		b = appendNumbers(b, ' ', x.Number)
		b = appendNumbers(b, ':', x.Size, x.Type)
	}
	return b
}

// appendNumbers writes numbers, each with a byte ahead.
func appendNumbers(b []byte, ahead byte, l ...int) []byte {
	for _, n := range l {
		b = strconv.AppendInt(append(b, ahead), int64(n), 10)
	}
	return b
}

func appendHex(b, data []byte) []byte {
	b = append(b, ' ')
	if len(data) == 0 {
		return append(b, '-')
	}
	for _, c := range data {
		b = append(b, hexDigits[c>>4], hexDigits[c&15])
	}
	return b
}

// Parse reads what Print writes, or returns the number of the line that is wrong.
func Parse(s string) (api.File, int, api.Errno) {
	if len(s) > MaxText {
		return api.File{}, 0, api.ErrSize
	}
	var f api.File
	for line := 0; s != ""; line++ {
		text, rest, ended := strings.Cut(s, "\n")
		x, ok := parseLine(text)
		if !ok || !ended {
			return api.File{}, line, api.ErrSyntax
		}
		f.Entries = keep(f.Entries, x)
		s = rest
	}
	return finished(f)
}

// wordsOf returns a function that takes the next word of a line, if there is one. Each blank has a word on both sides, which can be empty.
func wordsOf(line string) func() (string, bool) {
	more := true
	return func() (word string, ok bool) {
		ok = more
		word, line, more = strings.Cut(line, " ")
		return word, ok
	}
}

func parseLine(line string) (api.Entry, bool) {
	next := wordsOf(line)
	kind, _ := next()
	switch kind {
	case "define":
		return parseDefine(next)
	case "data":
		return parseData(api.EntryData, next)
	case "short":
		return parseData(api.EntryShort, next)
	}
	return api.Entry{}, false
}

func parseDefine(next func() (string, bool)) (api.Entry, bool) {
	slot, isSlot := nextNumber(next)
	global, isGlobal := nextNumber(next)
	order, _ := next()
	d := api.Def{Big: order == "big", Global: global}
	if !isSlot || !isGlobal || !d.Big && order != "little" {
		return api.Entry{}, false
	}
	for word, more := next(); more; word, more = next() {
		x, ok := parseField(word)
		if !ok {
			return api.Entry{}, false
		}
		d.Fields = append(d.Fields, x)
	}
	return api.Entry{Kind: api.EntryDefine, Slot: slot, Define: []api.Def{d}}, true
}

func parseData(kind int, next func() (string, bool)) (api.Entry, bool) {
	x := api.Entry{Kind: kind}
	ok, isOffset := false, true
	x.Slot, ok = nextNumber(next)
	if kind == api.EntryShort {
		x.Offset, isOffset = nextNumber(next)
	}
	word, _ := next()
	data, isHex := parseHex(word)
	x.Data = data
	_, more := next()
	return x, ok && isOffset && isHex && !more
}

// nextNumber takes the next word as a number. Where there is no word, there is no number.
func nextNumber(next func() (string, bool)) (int, bool) {
	word, _ := next()
	return quant.ReadWhole(word, maxDigits)
}

func parseField(s string) (api.FieldDef, bool) {
	words := strings.SplitN(s, ":", 4)
	if len(words) != 3 {
		return api.FieldDef{}, false
	}
	number, isNumber := quant.ReadWhole(words[0], maxDigits)
	size, isSize := quant.ReadWhole(words[1], maxDigits)
	kind, isKind := quant.ReadWhole(words[2], maxDigits)
	return api.FieldDef{Number: number, Size: size, Type: kind}, isNumber && isSize && isKind
}

func parseHex(s string) ([]byte, bool) {
	if s == "-" {
		return nil, true
	}
	if s == "" || len(s)%2 != 0 {
		return nil, false
	}
	b := make([]byte, 0, len(s)/2)
	for i := 0; i < len(s); i += 2 {
		high := strings.IndexByte(hexDigits, s[i])
		low := strings.IndexByte(hexDigits, s[i+1])
		if high < 0 || low < 0 {
			return nil, false
		}
		b = append(b, byte(16*high+low))
	}
	return b, true
}
