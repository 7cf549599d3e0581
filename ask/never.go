package ask

import (
	"slices"

	"harrier/api"
)

const maxAsked = 12 // parts that ask something of a row

// Never reports whether a condition holds for no row at all.
func Never(c api.Cond) (bool, api.Errno) {
	if e := CheckCond(c); e != api.OK {
		return false, e
	}
	asked := askedBy(c)
	if len(asked) > maxAsked || slices.ContainsFunc(asked, func(x api.Cond) bool { return x.Kind == api.CondHas }) {
		return false, api.ErrFuel
	}
	return !slices.ContainsFunc(unlikeRows(asked), func(r api.Row) bool { return holds(c, r) }), api.OK
}

// askedBy returns the parts of a condition that ask something of a row: it depends on these alone whether it holds.
func askedBy(c api.Cond) []api.Cond {
	if !within(c.Kind, api.CondAll, api.CondNot) {
		return []api.Cond{c}
	}
	var l []api.Cond
	for _, x := range c.Kids {
		l = append(l, askedBy(x)...)
	}
	return l
}

// unlikeRows returns a row for each way in which rows can answer what is asked.
func unlikeRows(asked []api.Cond) []api.Row {
	rows := []api.Row{{Name: "row", Sport: api.Run}}
	vary := func(values []int, set func(r *api.Row, n int)) { rows = variedRows(rows, asked, values, set) }
	vary([]int{api.Run, api.Ride, api.Swim, api.Walk, api.Ski}, func(r *api.Row, n int) { r.Sport = n })
	for _, tag := range tagsIn(asked) {
		vary([]int{0, 1}, func(r *api.Row, n int) {
			if n == 1 {
				r.Tags = append(slices.Clone(r.Tags), tag)
			}
		})
	}
	vary(momentsIn(asked), func(r *api.Row, n int) { r.Start = n })
	vary(edgesIn(asked, api.FieldWay, maxNumber), func(r *api.Row, n int) { r.Way = n })
	vary(edgesIn(asked, api.FieldClimb, maxNumber), func(r *api.Row, n int) { r.Climb = n })
	vary(edgesIn(asked, api.FieldSeconds, maxNumber), func(r *api.Row, n int) { r.Seconds = n })
	vary(edgesIn(asked, api.FieldLoad, maxNumber), func(r *api.Row, n int) { r.Load = n })
	return rows
}

// variedRows gives each row each of some values, and keeps one of those that answer all alike: so there are never more rows than ways to answer.
func variedRows(rows []api.Row, asked []api.Cond, values []int, set func(r *api.Row, n int)) []api.Row {
	var varied []api.Row
	seen := map[[maxAsked]bool]bool{}
	for _, r := range rows {
		for _, n := range values {
			set(&r, n)
			var answers [maxAsked]bool
			for i, x := range asked {
				answers[i] = holds(x, r)
			}
			if !seen[answers] {
				seen[answers] = true
				varied = append(varied, r)
			}
		}
	}
	return varied
}

// tagsIn returns the tags that are asked for, each once, in order.
func tagsIn(asked []api.Cond) []string {
	var tags []string
	for _, x := range asked {
		if x.Kind == api.CondTag {
			tags = append(tags, x.Text)
		}
	}
	slices.Sort(tags)
	return slices.Compact(tags)
}

// edgesIn returns 0, and the numbers up to most from which on something else is answered to what is asked of a field.
func edgesIn(asked []api.Cond, field, most int) []int {
	edges := []int{0}
	for _, x := range asked {
		if x.Kind != api.CondField || x.Field != field {
			continue
		}
		for _, n := range []int{x.Low, x.High + 1} {
			if within(n, 0, most) {
				edges = append(edges, n)
			}
		}
	}
	return edges
}

// momentsIn returns moments with all answers to what is asked of starts, days and weekdays: each moment from which on something else is answered to the first two of these, and where the six days behind it begin, which have the other weekdays.
func momentsIn(asked []api.Cond) []int {
	edges := edgesIn(asked, api.FieldStart, api.MaxMoment)
	for _, day := range edgesIn(asked, api.FieldDay, api.MaxDay) {
		edges = append(edges, day*api.DayLong)
	}
	var moments []int
	for _, n := range edges {
		moments = append(moments, n)
		for k := 1; k < weekLong; k++ {
			if day := n/api.DayLong + k; day <= api.MaxDay {
				moments = append(moments, day*api.DayLong)
			}
		}
	}
	return moments
}
