package ask

import (
	"strconv"
	"strings"

	"harrier/api"
)

// PrintCond writes a condition.
func PrintCond(c api.Cond) (string, api.Errno) {
	if e := CheckCond(c); e != api.OK {
		return "", e
	}
	return sized(condText(c))
}

// PrintQuery writes a query.
func PrintQuery(q api.Query) (string, api.Errno) {
	if e := CheckQuery(q); e != api.OK {
		return "", e
	}
	var words []string
	for _, x := range q.Tells {
		words = append(words, tellText(x))
	}
	text := strings.Join(words, ", ")
	if q.Where.Kind != api.CondAll || len(q.Where.Kids) > 0 {
		text += " where " + condText(q.Where)
	}
	if q.Group != api.GroupNone {
		text += " by " + groups()[q.Group]
	}
	return sized(text)
}

func sized(text string) (string, api.Errno) {
	if len(text) > MaxText {
		return "", api.ErrSize
	}
	return text, api.OK
}

func tellText(x api.Tell) string {
	if x.Kind == api.TellMany {
		return tells()[x.Kind]
	}
	return tells()[x.Kind] + " " + fields()[x.Field]
}

func condText(c api.Cond) string {
	switch c.Kind {
	case api.CondAll:
		return kidsText(c.Kids, "all", "all ", " and ")
	case api.CondAny:
		return kidsText(c.Kids, "none", "any ", " or ")
	case api.CondNot:
		return "not " + kidText(c.Kids[0])
	case api.CondSport:
		return sports()[c.Low]
	case api.CondTag:
		return "#" + c.Text
	case api.CondHas:
		return `name "` + strings.NewReplacer(`"`, `\"`, `\`, `\\`).Replace(c.Text) + `"`
	}
	return fields()[c.Field] + " " + strconv.Itoa(c.Low) + ".." + strconv.Itoa(c.High)
}

// kidsText writes a row of kids: none is for no kids, ahead stands ahead of a single one, and between stands between several.
func kidsText(kids []api.Cond, none, ahead, between string) string {
	if len(kids) == 0 {
		return none
	}
	var texts []string
	for _, x := range kids {
		texts = append(texts, kidText(x))
	}
	if len(kids) == 1 {
		return ahead + texts[0]
	}
	return strings.Join(texts, between)
}

// kidText writes a condition that stands within another one.
func kidText(c api.Cond) string {
	if c.Kind != api.CondNot && len(c.Kids) > 0 {
		return "(" + condText(c) + ")"
	}
	return condText(c)
}
