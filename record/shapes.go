package record

import (
	"iter"
	"slices"

	"harrier/api"
)

const (
	manySlots  = 16
	shortSlots = 4  // slots that short data can have
	manyShorts = 32 // offsets of short data
	timeBytes  = 4
)

// A shape is what the data of a slot look like. Its definition can share memory with an argument, so it is only read.
type shape struct {
	known bool // there is a definition
	def   api.Def
	bytes int // of all fields
	time  int // which of the fields is the time field, or -1
}

func shapeOf(d api.Def) shape {
	s := shape{known: true, def: d, time: slices.IndexFunc(d.Fields, isTime)}
	for _, x := range d.Fields {
		s.bytes += x.Size
	}
	return s
}

func isTime(x api.FieldDef) bool {
	return x.Number == TimeField && x.Type == api.TypeUnsigned && x.Size == timeBytes
}

// holds reports whether there can be data of this kind.
func (s *shape) holds(kind int) bool {
	return s.known && (kind != api.EntryShort || s.time >= 0)
}

// length returns how many bytes data of this kind have.
func (s *shape) length(kind int) int {
	if kind == api.EntryShort {
		return s.bytes - timeBytes
	}
	return s.bytes
}

// fields yields the fields that data of this kind have, each with the number of its first byte.
func (s *shape) fields(kind int) iter.Seq2[int, api.FieldDef] {
	return func(yield func(int, api.FieldDef) bool) {
		at := 0
		for i, d := range s.def.Fields {
			if kind == api.EntryShort && i == s.time {
				continue
			}
			if !yield(at, d) {
				return
			}
			at += d.Size
		}
	}
}

// find returns the field with this number that data of this kind have, and the number of its first byte.
func (s *shape) find(kind, number int) (at int, d api.FieldDef, ok bool) {
	for at, d := range s.fields(kind) {
		if d.Number == number {
			return at, d, true
		}
	}
	return 0, api.FieldDef{}, false
}

// slots has the definitions that hold, for each slot.
type slots [manySlots]shape

// learn takes in the definition of an entry, if it is one.
func (s *slots) learn(x api.Entry) {
	if x.Kind == api.EntryDefine {
		s[x.Slot] = shapeOf(x.Define[0])
	}
}

// A passage goes through entries, one behind the other.
type passage struct {
	slots
	last int // the time of the last entry that had one, or -1
}

func newPassage() *passage { return &passage{last: -1} }

// A visit is to an entry of a right file. Of a definition, it has no shape.
type visit struct {
	api.Entry
	shape shape
	time  int // or -1
}

// pass goes on behind an entry that is right.
func (p *passage) pass(x api.Entry) visit {
	v := visit{Entry: x, time: -1}
	if x.Kind == api.EntryDefine {
		p.learn(x)
		return v
	}
	v.shape = p.slots[x.Slot]
	v.time = p.timeOf(x, &v.shape)
	if v.time >= 0 {
		p.last = v.time
	}
	return v
}

func (p *passage) timeOf(x api.Entry, s *shape) int {
	if x.Kind == api.EntryShort {
		return p.last + (x.Offset-p.last)&(manyShorts-1)
	}
	if s.time < 0 {
		return -1
	}
	at, d, _ := s.find(x.Kind, TimeField)
	v := valueIn(x.Data[at:at+d.Size], d, s.def.Big)
	if v.Missing {
		return -1
	}
	return v.Int
}

// visits yields the entries of a right file with their numbers.
func visits(f api.File) iter.Seq2[int, visit] {
	return func(yield func(int, visit) bool) {
		p := newPassage()
		for k, x := range f.Entries {
			if !yield(k, p.pass(x)) {
				return
			}
		}
	}
}

// dataAt returns the data number k of a file.
func dataAt(f api.File, k int) (visit, api.Errno) {
	if e := CheckFile(f); e != api.OK {
		return visit{}, e
	}
	for i, v := range visits(f) {
		if i != k {
			continue
		}
		if v.Kind == api.EntryDefine {
			return visit{}, api.ErrKind
		}
		return v, api.OK
	}
	return visit{}, api.ErrNone
}
