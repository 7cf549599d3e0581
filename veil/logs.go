package veil

import (
	"slices"

	"harrier/api"
	"harrier/effort"
	"harrier/record"
)

// lengthBytes has the number of the bytes of a file ahead of it.
const lengthBytes = 4

// Totals returns what the pieces that a level sees of a log are together.
func Totals(v api.Veil, level int, l []api.Activity) (api.Sums, api.Errno) {
	if e := checkSeen(v, level, l); e != api.OK {
		return api.Sums{}, e
	}
	var sums api.Sums
	for p := range viewOf(v, level).pieces(l) {
		span := record.Span(p)
		part, _ := effort.PartOf(p, 0, span)
		sums.Many++
		sums.Way += part.Way
		sums.Climb += part.Climb
		sums.Seconds += span
	}
	return sums, api.OK
}

// Curve returns the best windows of a stream of all pieces that a level sees of a log.
func Curve(v api.Veil, level int, l []api.Activity, kind int, sizes []int) ([]api.Best, api.Errno) {
	if e := checkSeen(v, level, l); e != api.OK {
		return nil, e
	}
	if !within(kind, api.StreamPulse, api.StreamClimb) {
		return nil, api.ErrKind
	}
	// Without a piece there is still a curve: nothing is found in no seconds.
	curve, e := effort.Curve(nil, sizes)
	if e != api.OK {
		return nil, e
	}
	for p := range viewOf(v, level).pieces(l) {
		stream, _ := effort.Stream(p, kind)
		next, _ := effort.Curve(stream, sizes)
		curve, _ = effort.Merge(curve, next)
	}
	return curve, api.OK
}

// Export writes the files of the pieces that a level sees of a log.
func Export(v api.Veil, level int, l []api.Activity, big bool) ([]byte, api.Errno) {
	if e := checkSeen(v, level, l); e != api.OK {
		return nil, e
	}
	var b []byte
	for p := range viewOf(v, level).pieces(l) {
		f, e := record.FileOf(p, big)
		if e != api.OK {
			return nil, e
		}
		// Behind too many bytes no more are kept, but a piece that has no file is the first error.
		if len(b) <= maxExport {
			b = appendFile(b, f)
		}
	}
	if len(b) > maxExport {
		return nil, api.ErrSize
	}
	return b, api.OK
}

// appendFile has a file of an activity, which is never too long.
func appendFile(b []byte, f api.File) []byte {
	file, _ := record.Write(f)
	n := len(file)
	b = append(b, byte(n>>24), byte(n>>16), byte(n>>8), byte(n))
	return append(b, file...)
}

// Import reads what Export writes.
func Import(b []byte) ([]api.Activity, api.Errno) {
	if len(b) > maxExport {
		return nil, api.ErrSize
	}
	var l []api.Activity
	for len(b) > 0 {
		file, rest, ok := cutFile(b)
		if !ok {
			return nil, api.ErrSyntax
		}
		f, _, e := record.Read(file)
		if e != api.OK {
			return nil, e
		}
		a, e := record.Activity(f)
		if e != api.OK {
			return nil, e
		}
		l = append(l, a)
		b = rest
	}
	return l, api.OK
}

// cutFile returns the bytes of the first file, and those behind it, if none are missing.
func cutFile(b []byte) (file, rest []byte, ok bool) {
	if len(b) < lengthBytes {
		return nil, nil, false
	}
	long := int(b[0])<<24 | int(b[1])<<16 | int(b[2])<<8 | int(b[3])
	b = b[lengthBytes:]
	if len(b) < long {
		return nil, nil, false
	}
	return b[:long], b[long:], true
}

// Tells reports whether a level sees different things of two activities.
func Tells(v api.Veil, level int, a, b api.Activity) (bool, api.Errno) {
	if e := checkSeen(v, level, []api.Activity{a, b}); e != api.OK {
		return false, e
	}
	ofA, _ := See(v, level, a)
	ofB, _ := See(v, level, b)
	return !slices.EqualFunc(ofA, ofB, record.Same), api.OK
}

// Audience returns the greatest level that sees an activity just as it is, if there is one.
func Audience(v api.Veil, a api.Activity) (int, bool, api.Errno) {
	for level := MaxLevel; level >= 0; level-- {
		l, e := See(v, level, a)
		if e != api.OK {
			return 0, false, e
		}
		if len(l) == 1 && record.Same(l[0], a) {
			return level, true, api.OK
		}
	}
	return 0, false, api.OK
}
