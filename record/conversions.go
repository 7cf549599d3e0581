package record

import "harrier/api"

// maxTime is the greatest time that is not a missing one.
const maxTime = 1<<32 - 2

// What data are.
const (
	ofActivity = 0
	ofLap      = 19
	ofSample   = 20
	ofTag      = 30
)

// Activity makes an activity of a file.
func Activity(f api.File) (api.Activity, api.Errno) {
	if e := CheckFile(f); e != api.OK {
		return api.Activity{}, e
	}
	a, ok := headOf(f)
	if !ok {
		return api.Activity{}, api.ErrNone
	}
	for _, v := range visits(f) {
		if !v.addTo(&a) {
			return api.Activity{}, api.ErrForm
		}
	}
	if e := Check(a); e != api.OK {
		return api.Activity{}, e
	}
	return a, api.OK
}

// headOf returns what the first data of an activity tell.
func headOf(f api.File) (api.Activity, bool) {
	for _, v := range visits(f) {
		if v.isOf(ofActivity) {
			name, hasName := v.textOf(1)
			sport, hasSport := v.numberOf(2, api.TypeUnsigned)
			return api.Activity{Name: name, Sport: sport, Start: v.time}, hasName && hasSport && v.time >= 0
		}
	}
	return api.Activity{}, false
}

// addTo puts a sample, a lap or a tag into an activity; it reports whether the entry has all that it must have.
func (v visit) addTo(a *api.Activity) bool {
	ok := true
	switch {
	case v.isOf(ofSample):
		var x api.Sample
		x, ok = v.sample(a.Start)
		a.Samples = append(a.Samples, x)
	case v.isOf(ofLap):
		var x api.Lap
		x, ok = v.lap(a.Start)
		a.Laps = append(a.Laps, x)
	case v.isOf(ofTag):
		var x string
		x, ok = v.textOf(1)
		a.Tags = append(a.Tags, x)
	}
	return ok
}

func (v visit) sample(start int) (api.Sample, bool) {
	x, xKnown := v.numberOf(0, api.TypeSigned)
	y, yKnown := v.numberOf(1, api.TypeSigned)
	z, zKnown := v.numberOf(2, api.TypeSigned)
	s := api.Sample{At: v.time - start, X: x, Y: y, Z: z, Pulse: v.measure(3), Power: v.measure(4), Steps: v.measure(5)}
	return s, v.time >= 0 && xKnown && yKnown && zKnown
}

func (v visit) measure(number int) int {
	n, known := v.numberOf(number, api.TypeUnsigned)
	if !known {
		return -1
	}
	return n
}

func (v visit) lap(start int) (api.Lap, bool) {
	to, known := v.numberOf(1, api.TypeUnsigned)
	name, _ := v.textOf(2)
	return api.Lap{From: v.time - start, To: to - start, Name: name}, v.time >= 0 && known
}

// numberOf returns what a field has, if there is one of this type, and it is not missing.
func (v visit) numberOf(number, kind int) (int, bool) {
	x, known := v.valueOf(number, kind)
	return x.Int, known
}

func (v visit) textOf(number int) (string, bool) {
	x, known := v.valueOf(number, api.TypeText)
	return x.Text, known
}

func (v visit) valueOf(number, kind int) (api.Value, bool) {
	at, d, ok := v.shape.find(v.Kind, number)
	if !ok || d.Type != kind {
		return api.Value{}, false
	}
	x := valueIn(v.Data[at:at+d.Size], d, v.shape.def.Big)
	return x, !x.Missing
}

// FileOf makes a file of an activity.
func FileOf(a api.Activity, big bool) (api.File, api.Errno) {
	if e := Check(a); e != api.OK {
		return api.File{}, e
	}
	if a.Start+Span(a) > maxTime {
		return api.File{}, api.ErrRange
	}
	f := draft{big: big}
	add := f.define(0, ofActivity, timeDef(), textDef(1), numberDef(2, api.TypeUnsigned, 1))
	add(api.EntryData, told(a.Start), named(a.Name), told(a.Sport))
	f.addTags(a)
	f.addLaps(a)
	f.addSamples(a)
	return f.file, api.OK
}

func timeDef() api.FieldDef { return numberDef(TimeField, api.TypeUnsigned, timeBytes) }

func textDef(number int) api.FieldDef {
	return api.FieldDef{Number: number, Size: api.MaxName, Type: api.TypeText}
}

func numberDef(number, kind, size int) api.FieldDef {
	return api.FieldDef{Number: number, Size: size, Type: kind}
}

func told(n int) api.Value { return api.Value{Int: n} }

func named(s string) api.Value { return api.Value{Text: s} }

// measured is the value of a number that is -1 if it is not known.
func measured(n int) api.Value {
	if n < 0 {
		return api.Value{Missing: true}
	}
	return told(n)
}

// A draft is a file that grows.
type draft struct {
	big  bool
	file api.File
}

// define adds a definition, and returns a function that adds data of it. This takes a value for each field; short data are only for definitions that begin with the time field.
func (f *draft) define(slot, global int, fields ...api.FieldDef) func(kind int, values ...api.Value) {
	d := api.Def{Big: f.big, Global: global, Fields: fields}
	f.file.Entries = append(f.file.Entries, api.Entry{Kind: api.EntryDefine, Slot: slot, Define: []api.Def{d}})
	s := shapeOf(d)
	return func(kind int, values ...api.Value) {
		x := api.Entry{Kind: kind, Slot: slot, Data: make([]byte, s.length(kind))}
		if kind == api.EntryShort {
			x.Offset = values[0].Int % manyShorts
			values = values[1:]
		}
		i := 0
		for at, d := range s.fields(kind) {
			putValue(x.Data[at:at+d.Size], d, f.big, values[i])
			i++
		}
		f.file.Entries = append(f.file.Entries, x)
	}
}

func (f *draft) addTags(a api.Activity) {
	if len(a.Tags) == 0 {
		return
	}
	add := f.define(3, ofTag, textDef(1))
	for _, x := range a.Tags {
		add(api.EntryData, named(x))
	}
}

func (f *draft) addLaps(a api.Activity) {
	if len(a.Laps) == 0 {
		return
	}
	add := f.define(2, ofLap, timeDef(), numberDef(1, api.TypeUnsigned, 4), textDef(2))
	for _, x := range a.Laps {
		add(api.EntryData, told(a.Start+x.From), told(a.Start+x.To), named(x.Name))
	}
}

func (f *draft) addSamples(a api.Activity) {
	if len(a.Samples) == 0 {
		return
	}
	add := f.define(1, ofSample, timeDef(),
		numberDef(0, api.TypeSigned, 4), numberDef(1, api.TypeSigned, 4), numberDef(2, api.TypeSigned, 4),
		numberDef(3, api.TypeUnsigned, 2), numberDef(4, api.TypeUnsigned, 2), numberDef(5, api.TypeUnsigned, 2))
	for i, x := range a.Samples {
		kind := api.EntryShort
		if i == 0 || x.At-a.Samples[i-1].At >= manyShorts {
			kind = api.EntryData
		}
		add(kind, told(a.Start+x.At), told(x.X), told(x.Y), told(x.Z), measured(x.Pulse), measured(x.Power), measured(x.Steps))
	}
}
