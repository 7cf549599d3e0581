package trail

import (
	"slices"

	"harrier/api"
	"harrier/record"
	"harrier/track"
)

// An edit is an api.Edit of one of the groups of kinds.
type edit interface {
	// apply changes an activity, in its memory. Where it has an error, what is left of the activity is of no use.
	apply(a *api.Activity) api.Errno
	place() place
	plain() api.Edit
}

type (
	setting api.Edit // Name, Sport and Field: whatever was there before
	tagging api.Edit // Tag and Untag
	moving  api.Edit // Shift and Raise
	shaping api.Edit // Crop, Level and Fill
	lapping api.Edit // Lap and Unlap
)

func editOf(x api.Edit) edit {
	switch x.Kind {
	case EditTag, EditUntag:
		return tagging(x)
	case EditShift, EditRaise:
		return moving(x)
	case EditCrop, EditLevel, EditFill:
		return shaping(x)
	case EditLap, EditUnlap:
		return lapping(x)
	}
	return setting(x)
}

func (x setting) plain() api.Edit { return api.Edit(x) }
func (x tagging) plain() api.Edit { return api.Edit(x) }
func (x moving) plain() api.Edit  { return api.Edit(x) }
func (x shaping) plain() api.Edit { return api.Edit(x) }
func (x lapping) plain() api.Edit { return api.Edit(x) }

func (x setting) apply(a *api.Activity) api.Errno {
	switch x.Kind {
	case EditName:
		a.Name = x.Text
	case EditSport:
		a.Sport = x.N
	default:
		for i := range a.Samples {
			*fieldOf(&a.Samples[i], x.N) = -1
		}
	}
	return api.OK
}

func fieldOf(s *api.Sample, field int) *int {
	switch field {
	case api.FieldPulse:
		return &s.Pulse
	case api.FieldPower:
		return &s.Power
	}
	return &s.Steps
}

func (x tagging) apply(a *api.Activity) api.Errno {
	at, found := slices.BinarySearch(a.Tags, x.Text)
	switch {
	case x.Kind == EditTag && found:
		return api.ErrTwice
	case x.Kind == EditTag:
		a.Tags = slices.Insert(a.Tags, at, x.Text)
	case !found:
		return api.ErrNone
	default:
		a.Tags = slices.Delete(a.Tags, at, at+1)
	}
	return api.OK
}

func (x moving) apply(a *api.Activity) api.Errno {
	if x.Kind == EditShift {
		a.Start += x.N
		return api.OK
	}
	for i := range a.Samples {
		a.Samples[i].Z += x.N
	}
	return api.OK
}

func (x shaping) apply(a *api.Activity) (e api.Errno) {
	switch x.Kind {
	case EditCrop:
		*a, e = track.Cut(*a, x.From, x.To)
	case EditLevel:
		*a, e = track.Level(*a, x.N)
	case EditFill:
		*a, e = track.Fill(*a, x.N)
	}
	return e
}

func (x lapping) apply(a *api.Activity) api.Errno {
	if x.Kind == EditLap {
		// The check of the activity finds laps that have seconds in common.
		at, _ := slices.BinarySearchFunc(a.Laps, x.From, func(l api.Lap, from int) int { return l.From - from })
		a.Laps = slices.Insert(a.Laps, at, api.Lap{From: x.From, To: x.To, Name: x.Text})
		return api.OK
	}
	if x.N >= len(a.Laps) {
		return api.ErrNone
	}
	a.Laps = slices.Delete(a.Laps, x.N, x.N+1)
	return api.OK
}

// Apply returns an activity after an edit.
func Apply(a api.Activity, x api.Edit) (api.Activity, api.Errno) {
	b, _, e := All(a, []api.Edit{x})
	return b, e
}

// All returns an activity after edits, or the number of the edit that has an error.
func All(a api.Activity, l []api.Edit) (b api.Activity, n int, e api.Errno) {
	if len(l) > MaxEdits {
		return api.Activity{}, 0, api.ErrSize
	}
	if e = record.Check(a); e != api.OK {
		return api.Activity{}, 0, e
	}
	b = record.Clone(a)
	for i, x := range l {
		if e = change(&b, x); e != api.OK {
			return api.Activity{}, i, e
		}
	}
	return b, 0, api.OK
}

// change does an edit of an activity that is right, in its memory. Where it has an error, what is left of the activity is of no use.
func change(a *api.Activity, x api.Edit) api.Errno {
	if e := CheckEdit(x); e != api.OK {
		return e
	}
	if e := editOf(x).apply(a); e != api.OK {
		return e
	}
	return record.Check(*a)
}
