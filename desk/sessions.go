package desk

import (
	"strconv"
	"strings"

	"harrier/api"
	"harrier/ask"
	"harrier/quant"
)

// blockEnd is the line behind a block.
const blockEnd = ".\n"

// Commands divides a session into commands, each with its block.
func Commands(script string) ([]string, api.Errno) {
	if script != "" && !strings.HasSuffix(script, "\n") {
		script += "\n"
	}
	if len(script) > MaxInput || strings.Count(script, "\n") > MaxLines {
		return nil, api.ErrSize
	}
	var list []string
	for script != "" {
		n, ok := commandSize(script)
		if !ok {
			return nil, api.ErrForm
		}
		list = append(list, script[:n])
		script = script[n:]
	}
	return list, api.OK
}

// commandSize returns how many bytes the first command has, unless the end of its block is missing.
func commandSize(script string) (int, bool) {
	end := strings.IndexByte(script, '\n')
	if !hasBlock(script[:end]) {
		return end + 1, true
	}
	// From the end of the first line on, as the block can be without a line.
	long := strings.Index(script[end:], "\n"+blockEnd)
	return end + long + len("\n"+blockEnd), long >= 0
}

// hasBlock reports whether a line has a block behind it.
func hasBlock(line string) bool {
	switch line {
	case "activity", "segment", "workout", "veil", "garage", "season":
		return true
	}
	return false
}

// Session does the commands of a session on a new desk, and returns all answers.
func Session(script string) string {
	list, e := Commands(script)
	if e != api.OK {
		return errorText(e)
	}
	d := New()
	var b strings.Builder
	for _, x := range list {
		b.WriteString(d.answer(x))
	}
	return b.String()
}

// Do does a command, and returns its answer.
func (d *Desk) Do(command string) string {
	list, e := Commands(command)
	if e != api.OK || len(list) != 1 {
		return errorText(api.ErrSyntax)
	}
	return d.answer(list[0])
}

func errorText(e api.Errno) string { return "error " + strconv.Itoa(int(e)) + "\n" }

// answer does a command as Commands returns it.
func (d *Desk) answer(text string) string {
	line, block, _ := strings.Cut(text, "\n")
	word, rest, more := strings.Cut(line, " ")
	c, ok := d.commands[word]
	x := words{text: strings.TrimSuffix(block, blockEnd)}
	if !ok || more != (c.forms != "") || !x.read(c.forms, rest) {
		return errorText(api.ErrSyntax)
	}
	lines, e := c.do(x)
	if e != api.OK {
		return errorText(e)
	}
	if c.isWhole {
		return lines
	}
	return lines + "ok\n"
}

// words has what stands behind the word of a command: names and numbers in their order, a number of rows (chapter 12), and all that follows, or the block.
type words struct {
	names   []string
	numbers []int
	field   int
	text    string
}

// read takes words by their forms: `w` for any word, `n` for a number, `s` for one that can be below 0, `f` for a number of rows, and at the end `t` for all that follows.
func (x *words) read(forms, line string) bool {
	l := strings.SplitN(line, " ", len(forms))
	if len(l) != len(forms) {
		return false
	}
	for i, word := range l {
		if !x.take(forms[i], word) {
			return false
		}
	}
	return true
}

func (x *words) take(form byte, word string) (ok bool) {
	read := quant.ReadWhole
	switch form {
	case 't':
		x.text = word
		return true
	case 'w':
		x.names = append(x.names, word)
		return isWord(word)
	case 'f':
		x.field, ok = ask.FieldOf(word)
		return ok
	case 's':
		read = quant.ReadSigned
	}
	n, ok := read(word, maxDigits)
	x.numbers = append(x.numbers, n)
	return ok
}
