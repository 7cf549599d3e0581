package ask

import (
	"cmp"
	"maps"
	"slices"
	"strings"

	"harrier/api"
	"harrier/load"
)

// CheckQuery returns what is wrong with a query.
func CheckQuery(q api.Query) api.Errno {
	if e := CheckCond(q.Where); e != api.OK {
		return e
	}
	if !within(q.Group, api.GroupNone, api.GroupTag) {
		return api.ErrKind
	}
	if len(q.Tells) == 0 {
		return api.ErrEmpty
	}
	if len(q.Tells) > MaxTells {
		return api.ErrSize
	}
	for _, x := range q.Tells {
		if !isTell(x) {
			return api.ErrKind
		}
	}
	return api.OK
}

func isTell(x api.Tell) bool {
	if x.Kind == api.TellMany {
		return x.Field == 0
	}
	return within(x.Kind, api.TellSum, api.TellMean) && isNumber(x.Field)
}

// Answer groups the rows for which a query asks, and tells of each group.
func Answer(q api.Query, l []api.Row) ([]api.Group, api.Errno) {
	if e := CheckQuery(q); e != api.OK {
		return nil, e
	}
	if e := checkRows(l); e != api.OK {
		return nil, e
	}
	return answer(q, l), api.OK
}

// A key tells groups from each other.
type key struct {
	number int
	text   string
}

func compareKeys(x, y key) int {
	return cmp.Or(cmp.Compare(x.number, y.number), strings.Compare(x.text, y.text))
}

// answer has a query and rows that are right.
func answer(q api.Query, l []api.Row) []api.Group {
	rows := map[key][]api.Row{}
	for _, r := range l {
		if !holds(q.Where, r) {
			continue
		}
		for _, k := range keysOf(q.Group, r) {
			rows[k] = append(rows[k], r)
		}
	}
	var groups []api.Group
	for _, k := range slices.SortedFunc(maps.Keys(rows), compareKeys) {
		g := api.Group{Number: k.number, Text: k.text}
		for _, x := range q.Tells {
			g.Told = append(g.Told, told(x, rows[k]))
		}
		groups = append(groups, g)
	}
	return groups
}

// keysOf returns the groups in which a row is.
func keysOf(group int, r api.Row) []key {
	switch day := dayOf(r); group {
	case api.GroupDay:
		return []key{{number: day}}
	case api.GroupWeek:
		return []key{{number: day - day%weekLong}}
	case api.GroupSport:
		return []key{{number: r.Sport}}
	case api.GroupTag:
		var keys []key
		for _, tag := range r.Tags {
			keys = append(keys, key{text: tag})
		}
		return keys
	}
	return []key{{}}
}

// told has one row or more.
func told(x api.Tell, rows []api.Row) api.Ratio {
	if x.Kind == api.TellMany {
		return api.Ratio{Num: len(rows), Den: 1}
	}
	number := numbers()[x.Field]
	sum, least, most := 0, number(rows[0]), number(rows[0])
	for _, r := range rows {
		n := number(r)
		sum, least, most = sum+n, min(least, n), max(most, n)
	}
	switch x.Kind {
	case api.TellSum:
		return api.Ratio{Num: sum, Den: 1}
	case api.TellLeast:
		return api.Ratio{Num: least, Den: 1}
	case api.TellMost:
		return api.Ratio{Num: most, Den: 1}
	}
	return load.RatioOf(sum, len(rows))
}

// sameGroup reports whether two groups are equal in all fields.
func sameGroup(g, h api.Group) bool {
	return g.Number == h.Number && g.Text == h.Text && slices.Equal(g.Told, h.Told)
}

// cloneQuery returns a query with memory of its own.
func cloneQuery(q api.Query) api.Query {
	q.Where, q.Tells = cloneCond(q.Where), slices.Clone(q.Tells)
	return q
}
