package record

import (
	"slices"

	"harrier/api"
)

// Times returns for each entry its time, or -1.
func Times(f api.File) ([]int, api.Errno) {
	if e := CheckFile(f); e != api.OK {
		return nil, e
	}
	return timesOf(f), api.OK
}

// timesOf returns the times of a right file.
func timesOf(f api.File) []int {
	var l []int
	for _, v := range visits(f) {
		l = append(l, v.time)
	}
	return l
}

// Find returns the numbers of the data that are of this kind.
func Find(f api.File, global int) ([]int, api.Errno) {
	if e := CheckFile(f); e != api.OK {
		return nil, e
	}
	if !within(global, 0, maxGlobal) {
		return nil, api.ErrRange
	}
	var l []int
	for k, v := range visits(f) {
		if v.isOf(global) {
			l = append(l, k)
		}
	}
	return l, api.OK
}

// isOf reports whether the entry is data of this kind.
func (v visit) isOf(global int) bool {
	return v.Kind != api.EntryDefine && v.shape.def.Global == global
}

// Widen makes short data into data.
func Widen(f api.File) (api.File, api.Errno) {
	if e := CheckFile(f); e != api.OK {
		return api.File{}, e
	}
	var g api.File
	for _, v := range visits(f) {
		if v.Kind != api.EntryShort {
			g.Entries = append(g.Entries, copyOfEntry(v.Entry))
			continue
		}
		if v.time > maxTime {
			return api.File{}, api.ErrRange
		}
		g.Entries = append(g.Entries, v.widened())
	}
	return g, api.OK
}

// widened returns short data with their time written out.
func (v visit) widened() api.Entry {
	at, d, _ := v.shape.find(api.EntryData, TimeField)
	time := appendNumber(nil, v.time, d.Size, v.shape.def.Big)
	return api.Entry{Kind: api.EntryData, Slot: v.Slot, Data: slices.Concat(v.Data[:at], time, v.Data[at:])}
}

// Without returns a file without the entries whose numbers are in l.
func Without(f api.File, l []int) (api.File, api.Errno) {
	if e := CheckFile(f); e != api.OK {
		return api.File{}, e
	}
	for i, k := range l {
		if k < 0 || k >= len(f.Entries) {
			return api.File{}, api.ErrNone
		}
		if i > 0 && k <= l[i-1] {
			return api.File{}, api.ErrOrder
		}
	}
	var left api.File
	var times []int
	for k, v := range visits(f) {
		if len(l) > 0 && l[0] == k {
			l = l[1:]
			continue
		}
		left.Entries = append(left.Entries, copyOfEntry(v.Entry))
		times = append(times, v.time)
	}
	if e := CheckFile(left); e != api.OK {
		return api.File{}, e
	}
	if !slices.Equal(times, timesOf(left)) {
		return api.File{}, api.ErrState
	}
	return left, api.OK
}
