package ask

import (
	"cmp"
	"iter"
	"slices"
	"strings"

	"harrier/api"
	"harrier/effort"
	"harrier/quant"
	"harrier/record"
)

// RowOf returns what a log tells of an activity.
func RowOf(a api.Activity, load int) (api.Row, api.Errno) {
	whole, e := effort.PartOf(a, 0, record.Span(a))
	if e != api.OK {
		return api.Row{}, e
	}
	if !within(load, 0, maxLoad) {
		return api.Row{}, api.ErrRange
	}
	r := api.Row{
		Name:    a.Name,
		Sport:   a.Sport,
		Start:   a.Start,
		Way:     whole.Way,
		Climb:   whole.Climb,
		Seconds: record.Span(a),
		Load:    load,
		Tags:    slices.Clone(a.Tags),
	}
	return r, api.OK
}

// CheckRow returns what is wrong with a row.
func CheckRow(r api.Row) api.Errno {
	if !quant.IsName(r.Name) {
		return api.ErrName
	}
	if !isSport(r.Sport) {
		return api.ErrKind
	}
	if !within(r.Start, 0, api.MaxMoment) {
		return api.ErrRange
	}
	for _, n := range []int{r.Way, r.Climb, r.Seconds, r.Load} {
		if !within(n, 0, maxNumber) {
			return api.ErrRange
		}
	}
	if len(r.Tags) > api.MaxTags {
		return api.ErrSize
	}
	return record.CheckTags(r.Tags)
}

func isSport(n int) bool { return within(n, api.Run, api.Ski) }

func checkRows(l []api.Row) api.Errno {
	return checkNamed(l, MaxRows, CheckRow, func(r api.Row) string { return r.Name })
}

// numbers has what tells each number of a row.
func numbers() [api.FieldWeekday + 1]func(api.Row) int {
	return [...]func(api.Row) int{
		api.FieldStart:   func(r api.Row) int { return r.Start },
		api.FieldDay:     dayOf,
		api.FieldWay:     func(r api.Row) int { return r.Way },
		api.FieldClimb:   func(r api.Row) int { return r.Climb },
		api.FieldSeconds: func(r api.Row) int { return r.Seconds },
		api.FieldLoad:    func(r api.Row) int { return r.Load },
		api.FieldWeekday: func(r api.Row) int { return dayOf(r) % weekLong },
	}
}

func isNumber(field int) bool { return within(field, api.FieldStart, api.FieldWeekday) }

func dayOf(r api.Row) int { return r.Start / api.DayLong }

// inOrder returns rows in the order of their Start, then of their Name.
func inOrder(rows iter.Seq[api.Row]) []api.Row {
	return slices.SortedFunc(rows, func(r, s api.Row) int {
		return cmp.Or(cmp.Compare(r.Start, s.Start), strings.Compare(r.Name, s.Name))
	})
}

// cloneRow returns a row with memory of its own.
func cloneRow(r api.Row) api.Row {
	r.Tags = slices.Clone(r.Tags)
	return r
}
