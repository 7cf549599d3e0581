package ask

import (
	"maps"
	"slices"

	"harrier/api"
	"harrier/quant"
)

// A Log has rows and reports by their names, and badges.
type Log struct {
	rows    map[string]api.Row
	reports map[string]*report
	badges  []api.Badge
}

// A report has a query, and what the answer was when Changed was called last, or when the report was made.
type report struct {
	query api.Query
	seen  []api.Group
}

// NewLog returns a log without rows.
func NewLog() *Log { return &Log{rows: map[string]api.Row{}, reports: map[string]*report{}} }

// Put puts a row, in the place of the one with its name, if there is one.
func (l *Log) Put(r api.Row) api.Errno {
	if e := CheckRow(r); e != api.OK {
		return e
	}
	if _, ok := l.rows[r.Name]; !ok && len(l.rows) == MaxRows {
		return api.ErrSize
	}
	l.rows[r.Name] = cloneRow(r)
	return api.OK
}

// Remove takes the row with a name away.
func (l *Log) Remove(name string) api.Errno {
	if _, ok := l.rows[name]; !ok {
		return api.ErrNone
	}
	delete(l.rows, name)
	return api.OK
}

// inOrder returns the rows in order. Their tags are the log's.
func (l *Log) inOrder() []api.Row { return inOrder(maps.Values(l.rows)) }

// Rows returns the rows in order.
func (l *Log) Rows() []api.Row {
	rows := l.inOrder()
	for i, r := range rows {
		rows[i] = cloneRow(r)
	}
	return rows
}

func (l *Log) answer(q api.Query) []api.Group { return answer(q, l.inOrder()) }

// Answer returns what the rows answer to a query.
func (l *Log) Answer(q api.Query) ([]api.Group, api.Errno) {
	if e := CheckQuery(q); e != api.OK {
		return nil, e
	}
	return l.answer(q), api.OK
}

// Watch keeps a report by a name.
func (l *Log) Watch(name string, q api.Query) api.Errno {
	if !quant.IsName(name) {
		return api.ErrName
	}
	if e := CheckQuery(q); e != api.OK {
		return e
	}
	if l.reports[name] != nil {
		return api.ErrTwice
	}
	if len(l.reports) == MaxBadges {
		return api.ErrSize
	}
	l.reports[name] = &report{cloneQuery(q), l.answer(q)}
	return api.OK
}

// Report returns what the rows answer now to the query of a report.
func (l *Log) Report(name string) ([]api.Group, api.Errno) {
	x := l.reports[name]
	if x == nil {
		return nil, api.ErrNone
	}
	return l.answer(x.query), api.OK
}

// Changed returns the names of the reports whose answer is another one than it was last.
func (l *Log) Changed() []string {
	var names []string
	for _, name := range slices.Sorted(maps.Keys(l.reports)) {
		x := l.reports[name]
		now := l.answer(x.query)
		if !slices.EqualFunc(now, x.seen, sameGroup) {
			names = append(names, name)
		}
		x.seen = now
	}
	return names
}

// SetBadges sets the badges, in the place of those before.
func (l *Log) SetBadges(b []api.Badge) api.Errno {
	if e := checkBadges(b); e != api.OK {
		return e
	}
	l.badges = slices.Clone(b)
	for i, x := range l.badges {
		l.badges[i].Where = cloneCond(x.Where)
	}
	return api.OK
}

// Earned returns the badges that the rows earn.
func (l *Log) Earned() []api.Earned { return earned(l.badges, l.inOrder()) }
