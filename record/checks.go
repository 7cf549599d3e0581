package record

import "harrier/api"

const (
	maxGlobal = 65535
	maxNumber = 255 // of a field
	maxSize   = 255 // bytes of a field
)

// CheckFile returns what is wrong with a file.
func CheckFile(f api.File) api.Errno {
	if len(f.Entries) > MaxEntries {
		return api.ErrSize
	}
	p := newPassage()
	for _, x := range f.Entries {
		if e := p.check(x); e != api.OK {
			return e
		}
		p.pass(x)
	}
	return api.OK
}

// check returns what is wrong with the entry that comes next.
func (p *passage) check(x api.Entry) api.Errno {
	if x.Kind < api.EntryDefine || x.Kind > api.EntryShort {
		return api.ErrKind
	}
	if e := checkHead(x); e != api.OK {
		return e
	}
	if x.Kind == api.EntryDefine {
		return checkDef(x.Define[0])
	}
	return p.checkData(x)
}

// checkHead returns what is wrong with an entry whatever its definition is.
func checkHead(x api.Entry) api.Errno {
	many, shorts := manySlots, 1
	if x.Kind == api.EntryShort {
		many, shorts = shortSlots, manyShorts
	}
	if !within(x.Slot, 0, many-1) || !within(x.Offset, 0, shorts-1) {
		return api.ErrRange
	}
	if x.Kind != api.EntryDefine && len(x.Define) != 0 {
		return api.ErrForm
	}
	if x.Kind == api.EntryDefine && (len(x.Define) != 1 || len(x.Data) != 0) {
		return api.ErrForm
	}
	return api.OK
}

func checkDef(d api.Def) api.Errno {
	if !within(d.Global, 0, maxGlobal) {
		return api.ErrRange
	}
	if len(d.Fields) > MaxFields {
		return api.ErrSize
	}
	var seen [maxNumber + 1]bool
	for _, x := range d.Fields {
		if e := checkField(x); e != api.OK {
			return e
		}
		if seen[x.Number] {
			return api.ErrTwice
		}
		seen[x.Number] = true
	}
	return api.OK
}

func checkField(x api.FieldDef) api.Errno {
	if !within(x.Number, 0, maxNumber) || !within(x.Size, 1, maxSize) {
		return api.ErrRange
	}
	if !within(x.Type, api.TypeUnsigned, api.TypeRaw) {
		return api.ErrKind
	}
	if isNumber(x.Type) && x.Size != 1 && x.Size != 2 && x.Size != 4 {
		return api.ErrForm
	}
	return api.OK
}

func isNumber(kind int) bool {
	return kind == api.TypeUnsigned || kind == api.TypeSigned
}

func (p *passage) checkData(x api.Entry) api.Errno {
	s := &p.slots[x.Slot]
	if !s.holds(x.Kind) || x.Kind == api.EntryShort && p.last < 0 {
		return api.ErrState
	}
	if len(x.Data) != s.length(x.Kind) {
		return api.ErrForm
	}
	return api.OK
}
