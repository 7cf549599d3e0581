package trail

import (
	"harrier/api"
	"harrier/quant"
	"harrier/record"
	"harrier/track"
)

// kinds has the words of edits in texts, the fields that they use besides Kind (the first letters of N, From and To, and `s` for Text), and from where to where N can be.
var kinds = [...]struct {
	word, fields string
	low, high    int
}{
	EditName:  {word: "name", fields: "s"},
	EditSport: {word: "sport", fields: "n", low: api.Run, high: api.Ski},
	EditTag:   {word: "tag", fields: "s"},
	EditUntag: {word: "untag", fields: "s"},
	EditShift: {word: "shift", fields: "n", low: -api.MaxMoment, high: api.MaxMoment},
	EditRaise: {word: "raise", fields: "n", low: -2 * api.MaxHeight, high: 2 * api.MaxHeight},
	EditField: {word: "field", fields: "n", low: api.FieldPulse, high: api.FieldSteps},
	EditCrop:  {word: "crop", fields: "ft"},
	EditLevel: {word: "level", fields: "n", high: track.MaxWidth},
	EditFill:  {word: "fill", fields: "n", high: api.MaxSpan},
	EditLap:   {word: "lap", fields: "fts"},
	EditUnlap: {word: "unlap", fields: "n", high: api.MaxLaps - 1},
}

// numberIn returns where an edit has one of the fields that are numbers.
func numberIn(x *api.Edit, field byte) *int {
	switch field {
	case 'f':
		return &x.From
	case 't':
		return &x.To
	}
	return &x.N
}

// CheckEdit returns what is wrong with an edit.
func CheckEdit(x api.Edit) api.Errno {
	if !within(x.Kind, EditName, EditUnlap) {
		return api.ErrKind
	}
	if hasMore(x) {
		return api.ErrForm
	}
	switch k := kinds[x.Kind]; k.fields {
	case "n":
		return checkNumber(x, k.low, k.high)
	case "s":
		if !quant.IsName(x.Text) {
			return api.ErrName
		}
	default:
		if x.From < 0 || x.From >= x.To || x.To > api.MaxSpan {
			return api.ErrRange
		}
		if !record.IsLapName(x.Text) {
			return api.ErrName
		}
	}
	return api.OK
}

// hasMore reports whether a field is not zero that the kind does not use.
func hasMore(x api.Edit) bool {
	for _, field := range []byte(kinds[x.Kind].fields) {
		if field == 's' {
			x.Text = ""
		} else {
			*numberIn(&x, field) = 0
		}
	}
	return x != api.Edit{Kind: x.Kind}
}

func checkNumber(x api.Edit, low, high int) api.Errno {
	if within(x.N, low, high) {
		return api.OK
	}
	if x.Kind == EditSport {
		return api.ErrKind
	}
	return api.ErrRange
}

// checkEdits returns what is wrong with a list of edits.
func checkEdits(l []api.Edit) api.Errno {
	if len(l) > MaxEdits {
		return api.ErrSize
	}
	for _, x := range l {
		if e := CheckEdit(x); e != api.OK {
			return e
		}
	}
	return api.OK
}
