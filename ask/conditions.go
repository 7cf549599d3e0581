package ask

import (
	"slices"
	"strings"

	"harrier/api"
	"harrier/quant"
	"harrier/record"
)

// CheckCond returns what is wrong with a condition.
func CheckCond(c api.Cond) api.Errno {
	if countParts(c, MaxParts) > MaxParts {
		return api.ErrSize
	}
	return checkParts(c, 0)
}

// countParts returns how many parts a condition has; if they are more than most, it does not look at all of them.
func countParts(c api.Cond, most int) int {
	many := 1
	for _, x := range c.Kids {
		if many > most {
			break
		}
		many += countParts(x, most-many)
	}
	return many
}

// checkParts looks at a part that is so many levels within the whole, then at those within it.
func checkParts(c api.Cond, level int) api.Errno {
	if e := checkPart(c); e != api.OK {
		return e
	}
	if level > MaxLevels {
		return api.ErrSize
	}
	for _, x := range c.Kids {
		if e := checkParts(x, level+1); e != api.OK {
			return e
		}
	}
	return api.OK
}

func checkPart(c api.Cond) api.Errno {
	switch c.Kind {
	case api.CondAll, api.CondAny, api.CondNot:
	case api.CondSport:
		if !isSport(c.Low) {
			return api.ErrKind
		}
	case api.CondTag:
		if !quant.IsName(c.Text) {
			return api.ErrName
		}
	case api.CondHas:
		// The bytes are those that names of laps have too.
		if c.Text == "" || !record.IsLapName(c.Text) {
			return api.ErrForm
		}
	case api.CondField:
		if !isNumber(c.Field) {
			return api.ErrKind
		}
		if !within(c.Low, -maxBound, maxBound) || !within(c.High, -maxBound, maxBound) || c.Low > c.High {
			return api.ErrRange
		}
	default:
		return api.ErrKind
	}
	if hasMore(c) || c.Kind == api.CondNot && len(c.Kids) != 1 {
		return api.ErrForm
	}
	return api.OK
}

// hasMore reports whether a field is not empty that the kind does not use.
func hasMore(c api.Cond) bool {
	switch c.Kind {
	case api.CondAll, api.CondAny, api.CondNot:
		c.Kids = nil
	case api.CondSport:
		c.Low = 0
	case api.CondTag, api.CondHas:
		c.Text = ""
	case api.CondField:
		c.Field, c.Low, c.High = 0, 0, 0
	}
	return c.Field != 0 || c.Low != 0 || c.High != 0 || c.Text != "" || len(c.Kids) > 0
}

// Holds reports whether a condition holds for a row.
func Holds(c api.Cond, r api.Row) (bool, api.Errno) {
	if e := CheckCond(c); e != api.OK {
		return false, e
	}
	if e := CheckRow(r); e != api.OK {
		return false, e
	}
	return holds(c, r), api.OK
}

// holds has a condition that is right.
func holds(c api.Cond, r api.Row) bool {
	switch c.Kind {
	case api.CondAny:
		return slices.ContainsFunc(c.Kids, func(x api.Cond) bool { return holds(x, r) })
	case api.CondNot:
		return !holds(c.Kids[0], r)
	case api.CondSport:
		return r.Sport == c.Low
	case api.CondTag:
		return slices.Contains(r.Tags, c.Text)
	case api.CondHas:
		return strings.Contains(r.Name, c.Text)
	case api.CondField:
		return within(numbers()[c.Field](r), c.Low, c.High)
	}
	return !slices.ContainsFunc(c.Kids, func(x api.Cond) bool { return !holds(x, r) })
}

// cloneCond returns a condition with memory of its own.
func cloneCond(c api.Cond) api.Cond {
	c.Kids = slices.Clone(c.Kids)
	for i, x := range c.Kids {
		c.Kids[i] = cloneCond(x)
	}
	return c
}
