package desk

import (
	"slices"
	"strconv"

	"harrier/api"
	"harrier/ask"
	"harrier/load"
)

// rows brings the rows of the log to what the activities are now, and returns them in order.
func (d *Desk) rows() ([]api.Row, api.Errno) {
	var rows []api.Row
	for a := range d.all() {
		cost, e := LoadOf(a, d.athlete)
		if e != api.OK {
			return nil, e
		}
		r, e := ask.RowOf(a, cost)
		if e != api.OK {
			return nil, e
		}
		rows = append(rows, r)
	}
	for _, r := range d.log.Rows() {
		d.log.Remove(r.Name)
	}
	for _, r := range rows {
		d.log.Put(r)
	}
	return d.log.Rows(), api.OK
}

func (d *Desk) list(words) (string, api.Errno) {
	rows, e := d.rows()
	if e != api.OK {
		return "", e
	}
	var b []byte
	for _, r := range rows {
		b = appendLine(b, r.Name, r.Start, r.Load)
	}
	return string(b), api.OK
}

func (d *Desk) ask(x words) (string, api.Errno) {
	q, _, e := ask.ReadQuery(x.text)
	if e != api.OK {
		return "", e
	}
	rows, e := d.rows()
	if e != api.OK {
		return "", e
	}
	groups, e := ask.Answer(q, rows)
	return groupsText(groups), e
}

func groupsText(l []api.Group) string {
	var b []byte
	for _, g := range l {
		text := g.Text
		if text == "" {
			text = nothing
		}
		b = append(b, strconv.Itoa(g.Number)+" "+text...)
		for _, x := range g.Told {
			b = appendNumbers(b, x.Num)
			if x.Den != 1 {
				b = append(b, "/"+strconv.Itoa(x.Den)...)
			}
		}
		b = append(b, '\n')
	}
	return string(b)
}

func (d *Desk) watch(x words) (string, api.Errno) {
	q, _, e := ask.ReadQuery(x.text)
	if e != api.OK {
		return "", e
	}
	if _, e := d.rows(); e != api.OK {
		return "", e
	}
	return "", d.log.Watch(x.names[0], q)
}

func (d *Desk) report(x words) (string, api.Errno) {
	if _, e := d.rows(); e != api.OK {
		return "", e
	}
	groups, e := d.log.Report(x.names[0])
	return groupsText(groups), e
}

func (d *Desk) changed(words) (string, api.Errno) {
	if _, e := d.rows(); e != api.OK {
		return "", e
	}
	lines := ""
	for _, name := range d.log.Changed() {
		lines += name + "\n"
	}
	return lines, api.OK
}

func (d *Desk) addBadge(x words) (string, api.Errno) {
	b, e := readBadge(x)
	if e != api.OK {
		return "", e
	}
	badges := append(slices.Clone(d.badges), b)
	if e := d.log.SetBadges(badges); e != api.OK {
		return "", e
	}
	d.badges = badges
	return "", api.OK
}

// readBadge has the name of a badge, the word of its kind, and all that follows.
func readBadge(x words) (api.Badge, api.Errno) {
	kinds := map[string]struct {
		kind  int
		forms string
	}{
		"many":   {api.BadgeMany, "nt"},
		"sum":    {api.BadgeSum, "fnt"},
		"most":   {api.BadgeMost, "fnt"},
		"streak": {api.BadgeStreak, "nt"},
	}
	k, ok := kinds[x.names[1]]
	var y words
	if !ok || !y.read(k.forms, x.text) {
		return api.Badge{}, api.ErrSyntax
	}
	where, _, e := ask.ReadCond(y.text)
	return api.Badge{Name: x.names[0], Kind: k.kind, Field: y.field, N: y.numbers[0], Where: where}, e
}

func (d *Desk) earned(words) (string, api.Errno) {
	if _, e := d.rows(); e != api.OK {
		return "", e
	}
	var b []byte
	for _, x := range d.log.Earned() {
		b = appendLine(b, x.Badge+" "+x.Row, x.Start)
	}
	return string(b), api.OK
}

func (d *Desk) form(x words) (string, api.Errno) {
	rows, e := d.rows()
	if e != api.OK {
		return "", e
	}
	day := x.numbers[0]
	first := day
	if len(rows) > 0 {
		first = min(day, dayOf(rows[0]))
	}
	book, e := load.NewBook(first, 0, 0)
	if e != api.OK {
		return "", e
	}
	for _, r := range rows {
		if e := book.Add(dayOf(r), r.Load); e != api.OK {
			return "", e
		}
	}
	s, e := book.On(day)
	if e != api.OK {
		return "", e
	}
	return numberLine(s.Load, s.Fitness, s.Fatigue, s.Form), api.OK
}

func dayOf(r api.Row) int { return r.Start / api.DayLong }
