package trail

import (
	"cmp"
	"slices"
	"strings"

	"harrier/api"
)

// A place tells where edits stand in a list that is tidy: by a kind, of some kinds also by a number, or by a text.
type place struct {
	kind, n int
	text    string
}

func (p place) compare(q place) int {
	return cmp.Or(cmp.Compare(p.kind, q.kind), cmp.Compare(p.n, q.n), strings.Compare(p.text, q.text))
}

func (x setting) place() place {
	if x.Kind == EditField {
		return place{kind: x.Kind, n: x.N}
	}
	return place{kind: x.Kind}
}

func (x tagging) place() place { return place{kind: EditTag, text: x.Text} }
func (x moving) place() place  { return place{kind: x.Kind} }
func (x shaping) place() place { return place{kind: EditCrop} }
func (x lapping) place() place { return place{kind: EditCrop} }

// Tidy returns a shorter list of edits that makes the same activity.
func Tidy(l []api.Edit) ([]api.Edit, api.Errno) {
	if e := checkEdits(l); e != api.OK {
		return nil, e
	}
	list := make([]edit, len(l))
	for i, x := range l {
		list[i] = editOf(x)
	}
	for again := true; again; {
		list, again = tidyOnce(list)
	}
	tidy := make([]api.Edit, len(list))
	for i, x := range list {
		tidy[i] = x.plain()
	}
	return tidy, api.OK
}

// tidyOnce does the first one of the rules that applies, in the first position where it does. It takes the list over.
func tidyOnce(l []edit) (_ []edit, done bool) {
	for i, x := range l {
		if saysNothing(x) {
			return slices.Delete(l, i, i+1), true
		}
	}
	for i := 1; i < len(l); i++ {
		if both, ok := together(l[i-1], l[i]); ok {
			return slices.Replace(l, i-1, i+1, both...), true
		}
	}
	for i := 1; i < len(l); i++ {
		if l[i].place().compare(l[i-1].place()) < 0 {
			l[i-1], l[i] = l[i], l[i-1]
			return l, true
		}
	}
	return l, false
}

func saysNothing(x edit) bool {
	switch x := x.(type) {
	case moving:
		return x.N == 0
	case shaping:
		return x.Kind == EditLevel && x.N == 0
	}
	return false
}

// together returns what two neighbours become, if they become something else.
func together(x, y edit) (both []edit, ok bool) {
	if x.place() != y.place() {
		return nil, false
	}
	switch x := x.(type) {
	case setting:
		return []edit{y}, true
	case tagging:
		return nil, x.Kind != y.plain().Kind
	case moving:
		x.N += y.plain().N
		return []edit{x}, CheckEdit(x.plain()) == api.OK
	}
	return nil, false
}
