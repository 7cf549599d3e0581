package ask

import (
	"cmp"
	"slices"
	"strings"

	"harrier/api"
	"harrier/quant"
)

// CheckBadge returns what is wrong with a badge.
func CheckBadge(b api.Badge) api.Errno {
	if !quant.IsName(b.Name) {
		return api.ErrName
	}
	if !within(b.Kind, api.BadgeMany, api.BadgeStreak) {
		return api.ErrKind
	}
	if e := CheckCond(b.Where); e != api.OK {
		return e
	}
	hasField := b.Kind == api.BadgeSum || b.Kind == api.BadgeMost
	if hasField && !isNumber(b.Field) || !hasField && b.Field != 0 {
		return api.ErrKind
	}
	if !within(b.N, 1, maxNumber) {
		return api.ErrRange
	}
	return api.OK
}

func checkBadges(l []api.Badge) api.Errno {
	return checkNamed(l, MaxBadges, CheckBadge, func(b api.Badge) string { return b.Name })
}

// Badges returns the badges that rows earn.
func Badges(b []api.Badge, l []api.Row) ([]api.Earned, api.Errno) {
	if e := checkBadges(b); e != api.OK {
		return nil, e
	}
	if e := checkRows(l); e != api.OK {
		return nil, e
	}
	return earned(b, inOrder(slices.Values(l))), api.OK
}

// earned has badges that are right, and rows in order.
func earned(l []api.Badge, rows []api.Row) []api.Earned {
	var list []api.Earned
	for _, b := range l {
		if r, ok := earnedWith(b, rows); ok {
			list = append(list, api.Earned{Badge: b.Name, Row: r.Name, Start: r.Start})
		}
	}
	slices.SortFunc(list, func(x, y api.Earned) int {
		return cmp.Or(cmp.Compare(x.Start, y.Start), strings.Compare(x.Row, y.Row), strings.Compare(x.Badge, y.Badge))
	})
	return list
}

// earnedWith returns the row with which a badge is earned, if there is one.
func earnedWith(b api.Badge, rows []api.Row) (api.Row, bool) {
	come := counted(b)
	for _, r := range rows {
		if holds(b.Where, r) && come(r) >= b.N {
			return r, true
		}
	}
	return api.Row{}, false
}

// counted returns a function that is told rows in order, and tells with each one what is to reach N.
func counted(b api.Badge) func(api.Row) int {
	n, number := 0, numbers()[b.Field]
	switch b.Kind {
	case api.BadgeSum:
		return func(r api.Row) int {
			n += number(r)
			return n
		}
	case api.BadgeMost:
		return number
	case api.BadgeStreak:
		return streak()
	}
	return func(api.Row) int {
		n++
		return n
	}
}

// streak returns a function that is told rows in order, and tells with each one how many days up to its own have rows.
func streak() func(api.Row) int {
	days, last := 0, -1
	return func(r api.Row) int {
		day := dayOf(r)
		if day > last+1 {
			days = 0
		}
		if day > last {
			days++
		}
		last = day
		return days
	}
}
