package ask

import (
	"slices"

	"harrier/api"
	"harrier/quant"
)

const (
	maxDigits = 18 // of a number
	maxDeep   = 50 // brackets and words that stand in one another
)

// wrongByte is thrown where a text ceases to be the beginning of one that can be read.
type wrongByte int

// A reader takes the parts of a text, one after the other.
type reader struct {
	text string
	at   int // of the first byte that is not taken
	deep int // how many brackets and words stand around what is read
}

// ReadCond reads a condition, or returns the number of the byte that is wrong.
func ReadCond(s string) (api.Cond, int, api.Errno) {
	return read(s, (*reader).cond, CheckCond)
}

// ReadQuery reads a query, or returns the number of the byte that is wrong.
func ReadQuery(s string) (api.Query, int, api.Errno) {
	return read(s, (*reader).query, CheckQuery)
}

// read reads a whole text by its form.
func read[T any](s string, form func(*reader) T, check func(T) api.Errno) (x T, at int, e api.Errno) {
	var none T
	if len(s) > MaxText {
		return none, 0, api.ErrSize
	}
	defer func() {
		if thrown := recover(); thrown != nil {
			x, at, e = none, int(thrown.(wrongByte)), api.ErrSyntax
		}
	}()
	r := &reader{text: s}
	x = form(r)
	r.skip()
	r.need(r.at == len(s))
	if e = check(x); e != api.OK {
		return none, 0, e
	}
	return x, 0, api.OK
}

// need throws at the next byte, if something is not as it has to be.
func (r *reader) need(ok bool) { r.needAt(r.at, ok) }

// needAt throws at a byte.
func (r *reader) needAt(at int, ok bool) {
	if !ok {
		panic(wrongByte(at))
	}
}

// has reports whether this byte comes next.
func (r *reader) has(c byte) bool { return r.at < len(r.text) && r.text[r.at] == c }

// skip takes blanks.
func (r *reader) skip() {
	for r.has(' ') {
		r.at++
	}
}

// end returns where a row of bytes ends that begins at a byte.
func (r *reader) end(from int, belongs func(c byte) bool) int {
	for from < len(r.text) && belongs(r.text[from]) {
		from++
	}
	return from
}

// word goes over blanks, and returns the word that comes next, or nothing. It does not take the word.
func (r *reader) word() string {
	r.skip()
	return r.text[r.at:r.end(r.at, quant.IsLetter)]
}

// takeWord takes a word, if it comes next.
func (r *reader) takeWord(word string) bool {
	if r.word() != word {
		return false
	}
	r.at += len(word)
	return true
}

// takeSign takes a byte, if it comes next.
func (r *reader) takeSign(c byte) bool {
	r.skip()
	if !r.has(c) {
		return false
	}
	r.at++
	return true
}

// hasOne returns the number of the word that comes next in a list, the first word of which is empty, or 0.
func (r *reader) hasOne(words []string) int { return max(slices.Index(words, r.word()), 0) }

// takeOne takes a word of such a list, and returns its number.
func (r *reader) takeOne(words []string) int {
	n := r.hasOne(words)
	r.need(n > 0)
	r.at += len(words[n])
	return n
}

func (r *reader) query() api.Query {
	q := api.Query{Where: api.Cond{Kind: api.CondAll}, Tells: []api.Tell{r.tell()}}
	for r.takeSign(',') {
		q.Tells = append(q.Tells, r.tell())
	}
	if r.takeWord("where") {
		q.Where = r.cond()
	}
	if r.takeWord("by") {
		q.Group = r.takeOne(groups())
	}
	return q
}

func (r *reader) tell() api.Tell {
	x := api.Tell{Kind: r.takeOne(tells())}
	if x.Kind != api.TellMany {
		x.Field = r.takeOne(fields())
	}
	return x
}

func (r *reader) cond() api.Cond { return r.row(api.CondAny, "or", r.all) }

func (r *reader) all() api.Cond { return r.row(api.CondAll, "and", r.unit) }

// row reads parts with a word between. A single one stands for itself.
func (r *reader) row(kind int, between string, part func() api.Cond) api.Cond {
	kids := []api.Cond{part()}
	for r.takeWord(between) {
		kids = append(kids, part())
	}
	if len(kids) == 1 {
		return kids[0]
	}
	return api.Cond{Kind: kind, Kids: kids}
}

// unit reads a condition that has no `and` or `or`, but in brackets.
func (r *reader) unit() api.Cond {
	r.skip()
	from := r.at
	switch {
	case r.takeSign('('):
		return r.inner(from, r.bracketed)
	case r.takeWord("not"):
		return r.withKid(api.CondNot, from)
	case r.takeWord("any"):
		return r.withKid(api.CondAny, from)
	case r.takeWord("none"):
		return api.Cond{Kind: api.CondAny}
	case r.takeWord("all"):
		if r.hasUnit() {
			return r.withKid(api.CondAll, from)
		}
		return api.Cond{Kind: api.CondAll}
	case r.takeSign('#'):
		return api.Cond{Kind: api.CondTag, Text: r.tag(from)}
	case r.takeWord("name"):
		return api.Cond{Kind: api.CondHas, Text: r.quoted()}
	case r.hasOne(sports()) > 0:
		return api.Cond{Kind: api.CondSport, Low: r.takeOne(sports())}
	}
	return r.field()
}

// hasUnit reports whether what comes next can begin a unit.
func (r *reader) hasUnit() bool {
	switch r.word() {
	case "":
		return r.has('(') || r.has('#')
	case "not", "any", "none", "all", "name":
		return true
	}
	return r.hasOne(sports()) > 0 || r.hasOne(fields()) > 0
}

func (r *reader) withKid(kind, from int) api.Cond {
	return api.Cond{Kind: kind, Kids: []api.Cond{r.inner(from, r.unit)}}
}

// inner reads what stands in something that begins at a byte.
func (r *reader) inner(from int, form func() api.Cond) api.Cond {
	r.needAt(from, r.deep < maxDeep)
	r.deep++
	c := form()
	r.deep--
	return c
}

// bracketed reads a condition and the bracket behind it.
func (r *reader) bracketed() api.Cond {
	c := r.cond()
	r.need(r.takeSign(')'))
	return c
}

// tag reads what follows a `#` that stands at a byte.
func (r *reader) tag(from int) string {
	begin := r.at
	r.at = r.end(begin, quant.IsNameByte)
	r.needAt(from, r.at > begin)
	return r.text[begin:r.at]
}

func (r *reader) quoted() string {
	r.need(r.takeSign('"'))
	from := r.at - 1
	var text []byte
	for !r.has('"') {
		// Ahead of a byte that has none, a backslash has no meaning.
		isMarked := r.has('\\')
		if isMarked {
			r.at++
		}
		r.need(r.at < len(r.text))
		r.needAt(from, !isMarked || r.has('"') || r.has('\\'))
		text = append(text, r.text[r.at])
		r.at++
	}
	r.at++
	return string(text)
}

func (r *reader) field() api.Cond {
	c := api.Cond{Kind: api.CondField, Field: r.takeOne(fields())}
	c.Low = r.number()
	r.points()
	c.High = r.number()
	return c
}

func (r *reader) number() int {
	r.skip()
	digits := r.at
	if r.has('-') {
		digits++
	}
	r.needAt(digits, digits == r.at || digits < len(r.text))
	end := r.end(digits, quant.IsDigit)
	n, ok := quant.ReadSigned(r.text[r.at:end], maxDigits)
	r.need(ok)
	r.at = end
	return n
}

// points reads `..`, between which no blank can stand.
func (r *reader) points() {
	r.need(r.takeSign('.'))
	r.need(r.has('.'))
	r.at++
}
