package quant

import (
	"strings"

	"harrier/api"
)

// A taker takes the next byte of a text, and moves its place behind it, if there is one from low to high.
type taker func(low, high byte) (byte, bool)

// A form reads a text, and reports whether it found all that belongs to it. It takes only bytes with which a text of this form can go on: so the place, where the form ends, is how long the longest beginning is that this form knows.
type form[T any] func(take taker) (T, bool)

func open(s string) (take taker, place func() int) {
	at := 0
	take = func(low, high byte) (byte, bool) {
		if at == len(s) || s[at] < low || s[at] > high {
			return 0, false
		}
		at++
		return s[at-1], true
	}
	return take, func() int { return at }
}

// read returns what the form tells that has the whole of s, or where no form goes on.
func read[T any](s string, most int, forms ...form[T]) (value T, at int, e api.Errno) {
	var none T
	if len(s) > most {
		return none, 0, api.ErrSize
	}
	far := 0
	for _, f := range forms {
		take, place := open(s)
		v, ok := f(take)
		if ok && place() == len(s) {
			return v, 0, api.OK
		}
		far = max(far, place())
	}
	return none, far, api.ErrSyntax
}

// word takes the bytes of w.
func word(take taker, w string) bool {
	for i := range len(w) {
		if _, ok := take(w[i], w[i]); !ok {
			return false
		}
	}
	return true
}

// number takes digits without a 0 before others. least is 0 or 1; most is at least 9.
func number(take taker, least, most int) (int, bool) {
	c, ok := take('0'+byte(least), '9')
	if !ok {
		return 0, false
	}
	n := int(c - '0')
	for n > 0 && 10*n <= most {
		c, ok = take('0', '0'+byte(min(most-10*n, 9)))
		if !ok {
			break
		}
		n = 10*n + int(c-'0')
	}
	return n, true
}

// ReadWhole reads a number of at most so many digits (which an int can hold), without a 0 before others.
func ReadWhole(s string, most int) (int, bool) {
	if len(s) < 1 || len(s) > most || len(s) > 1 && s[0] == '0' {
		return 0, false
	}
	n := 0
	for i := range len(s) {
		if !IsDigit(s[i]) {
			return 0, false
		}
		n = 10*n + int(s[i]-'0')
	}
	return n, true
}

// ReadSigned reads a number as ReadWhole does, which can have a `-` ahead, but for 0.
func ReadSigned(s string, most int) (int, bool) {
	digits, isBelow := strings.CutPrefix(s, "-")
	n, ok := ReadWhole(digits, most)
	if isBelow {
		return -n, ok && n > 0
	}
	return n, ok
}

// ReadWholes reports whether words are just as many numbers as it has places for. Behind a wrong word no place is filled.
func ReadWholes(words []string, most int, into ...*int) bool {
	if len(words) != len(into) {
		return false
	}
	for i, word := range words {
		n, ok := ReadWhole(word, most)
		if !ok {
			return false
		}
		*into[i] = n
	}
	return true
}

// pair takes two digits, from 00 to most.
func pair(take taker, most int) (int, bool) {
	tens, ok := take('0', '0'+byte(most/10))
	if !ok {
		return 0, false
	}
	high := byte('9')
	if tens == '0'+byte(most/10) {
		high = '0' + byte(most%10)
	}
	ones, ok := take('0', high)
	if !ok {
		return 0, false
	}
	return 10*int(tens-'0') + int(ones-'0'), true
}

// digits takes as many digits as there are, but at most so many, and tells how many these were.
func digits(take taker, most int) (n, many int) {
	for many < most {
		c, ok := take('0', '9')
		if !ok {
			break
		}
		n = 10*n + int(c-'0')
		many++
	}
	return n, many
}

// inSixties takes a number and pairs behind it, each with a colon ahead: the number tells hours or minutes, and the last pair seconds.
func inSixties(take taker, least, most, pairs int) (seconds int, ok bool) {
	seconds, ok = number(take, least, most)
	for range pairs {
		if !ok || !word(take, ":") {
			return 0, false
		}
		n := 0
		n, ok = pair(take, 59)
		seconds = 60*seconds + n
	}
	return seconds, ok
}
