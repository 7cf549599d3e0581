package quant

import (
	"cmp"
	"slices"
	"strconv"
	"strings"

	"harrier/api"
)

const (
	maxSpansText = 40_000            // bytes of a text of a set
	maxSpanEnd   = 9_999_999_999_999 // the greatest number of 13 digits
)

// IsName reports whether s is a name.
func IsName(s string) bool {
	if len(s) < 1 || len(s) > api.MaxName {
		return false
	}
	for i := range len(s) {
		if !IsNameByte(s[i]) {
			return false
		}
	}
	return true
}

// IsNameByte reports whether names can have this byte.
func IsNameByte(c byte) bool {
	return IsLetter(c) || IsDigit(c) || c == '-' || c == '_' || c == '.'
}

// IsLetter reports whether a byte is one of the letters that names can have.
func IsLetter(c byte) bool { return c >= 'a' && c <= 'z' || c >= 'A' && c <= 'Z' }

// IsDigit reports whether a byte is a decimal digit.
func IsDigit(c byte) bool { return c >= '0' && c <= '9' }

func inSets(n int) bool { return n >= 0 && n <= MaxTotal }

// CheckSpans returns what is wrong with a set.
func CheckSpans(l []api.Span) api.Errno {
	if len(l) > MaxSpans {
		return api.ErrSize
	}
	least := 0
	for _, x := range l {
		if !inSets(x.From) || !inSets(x.To) {
			return api.ErrRange
		}
		if x.To < x.From || x.From < least {
			return api.ErrOrder
		}
		least = x.To + 2
	}
	return api.OK
}

// both makes a set of two, if these are sets.
func both(a, b []api.Span, join func(a, b []api.Span) []api.Span) ([]api.Span, api.Errno) {
	if e := CheckSpans(a); e != api.OK {
		return nil, e
	}
	if e := CheckSpans(b); e != api.OK {
		return nil, e
	}
	l := join(a, b)
	if len(l) > MaxSpans {
		return nil, api.ErrSize
	}
	return l, api.OK
}

// Union returns the numbers that are in one of two sets.
func Union(a, b []api.Span) ([]api.Span, api.Errno) {
	return both(a, b, func(a, b []api.Span) []api.Span {
		return joined(slices.Concat(a, b))
	})
}

// joined puts spans in order and makes one of those that overlap, or have no number between; it uses the memory of l.
func joined(l []api.Span) []api.Span {
	slices.SortFunc(l, func(x, y api.Span) int { return cmp.Compare(x.From, y.From) })
	var set []api.Span
	for _, x := range l {
		last := len(set) - 1
		if last >= 0 && x.From <= set[last].To+1 {
			set[last].To = max(set[last].To, x.To)
		} else {
			set = append(set, x)
		}
	}
	return set
}

// Common returns the numbers that are in both sets.
func Common(a, b []api.Span) ([]api.Span, api.Errno) {
	return both(a, b, common)
}

func common(a, b []api.Span) []api.Span {
	var set []api.Span
	for i, j := 0, 0; i < len(a) && j < len(b); {
		x := api.Span{From: max(a[i].From, b[j].From), To: min(a[i].To, b[j].To)}
		if x.From <= x.To {
			set = append(set, x)
		}
		if a[i].To < b[j].To {
			i++
		} else {
			j++
		}
	}
	return set
}

// Without returns the numbers of a that are not in b.
func Without(a, b []api.Span) ([]api.Span, api.Errno) {
	return both(a, b, func(a, b []api.Span) []api.Span {
		return common(a, gaps(b))
	})
}

// gaps returns all numbers of sets that are not in this one.
func gaps(l []api.Span) []api.Span {
	var set []api.Span
	from := 0
	for _, x := range l {
		if from < x.From {
			set = append(set, api.Span{From: from, To: x.From - 1})
		}
		from = x.To + 1
	}
	if from <= MaxTotal {
		set = append(set, api.Span{From: from, To: MaxTotal})
	}
	return set
}

// Has reports whether n is in a set.
func Has(l []api.Span, n int) (bool, api.Errno) {
	if e := CheckSpans(l); e != api.OK {
		return false, e
	}
	return slices.ContainsFunc(l, func(x api.Span) bool { return x.From <= n && n <= x.To }), api.OK
}

// Size returns how many numbers a set has.
func Size(l []api.Span) (int, api.Errno) {
	if e := CheckSpans(l); e != api.OK {
		return 0, e
	}
	size := 0
	for _, x := range l {
		size += x.To - x.From + 1
	}
	return size, api.OK
}

// SpansText writes the spans of a set with commas between.
func SpansText(l []api.Span) (string, api.Errno) {
	if e := CheckSpans(l); e != api.OK {
		return "", e
	}
	var words []string
	for _, x := range l {
		text := strconv.Itoa(x.From)
		if x.To > x.From {
			text += "-" + strconv.Itoa(x.To)
		}
		words = append(words, text)
	}
	return strings.Join(words, ","), api.OK
}

// ReadSpans reads spans in any order, and returns the set of all of their numbers.
func ReadSpans(s string) (l []api.Span, at int, e api.Errno) {
	l, at, e = read(s, maxSpansText, spansForm)
	if e != api.OK {
		return nil, at, e
	}
	if slices.ContainsFunc(l, func(x api.Span) bool { return !inSets(x.From) || !inSets(x.To) }) {
		return nil, 0, api.ErrRange
	}
	if slices.ContainsFunc(l, func(x api.Span) bool { return x.To < x.From }) {
		return nil, 0, api.ErrOrder
	}
	l = joined(l)
	if len(l) > MaxSpans {
		return nil, 0, api.ErrSize
	}
	return l, 0, api.OK
}

func spansForm(take taker) (l []api.Span, ok bool) {
	for {
		from, ok := number(take, 0, maxSpanEnd)
		if !ok {
			// Only the empty set has no number; behind a comma there is one.
			return l, len(l) == 0
		}
		to := from
		if word(take, "-") {
			if to, ok = number(take, 0, maxSpanEnd); !ok {
				return nil, false
			}
		}
		l = append(l, api.Span{From: from, To: to})
		if !word(take, ",") {
			return l, true
		}
	}
}
