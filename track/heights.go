package track

import (
	"harrier/api"
	"harrier/record"
)

// A line goes up and down over some of the samples, the last one of which is at the height z.
type line struct {
	zigzag api.Zigzag
	z      int
}

// to returns the line that goes on to the height z.
func (l line) to(z int) line {
	if z > l.z {
		l.zigzag.Up += z - l.z
	} else {
		l.zigzag.Down += l.z - z
	}
	l.z = z
	return l
}

func (l line) worth(threshold int) int {
	return l.zigzag.Up + l.zigzag.Down - threshold*l.zigzag.Turns
}

// Climb returns how much somebody went up and down, without what is less than the threshold.
func Climb(a api.Activity, threshold int) (api.Zigzag, api.Errno) {
	if e := record.Check(a); e != api.OK {
		return api.Zigzag{}, e
	}
	if !within(threshold, 0, 2*api.MaxHeight) {
		return api.Zigzag{}, api.ErrRange
	}
	if len(a.Samples) == 0 {
		return api.Zigzag{}, api.OK
	}
	// better returns the line of more worth, of two the one with less turns; how: what each unit of its height counts.
	better := func(l, m line, how int) line {
		x, y := l.worth(threshold)+how*l.z, m.worth(threshold)+how*m.z
		if x > y || x == y && l.zigzag.Turns <= m.zigzag.Turns {
			return l
		}
		return m
	}
	best := line{z: a.Samples[0].Z}
	// Of all lines up to a sample it is enough to know the one from which to rise, and the one from which to fall: the height that follows is worth the same behind each of them.
	low, high := best, best
	for _, x := range a.Samples[1:] {
		best = better(low.to(x.Z), high.to(x.Z), 0)
		turn := best
		turn.zigzag.Turns++
		low, high = better(low, turn, -1), better(high, turn, 1)
	}
	return best.zigzag, api.OK
}

// Hills returns the hills that are not a part of another one.
func Hills(a api.Activity, least, dip int) ([]api.Hill, api.Errno) {
	if e := record.Check(a); e != api.OK {
		return nil, e
	}
	if !within(least, 1, 2*api.MaxHeight) || !within(dip, 0, 2*api.MaxHeight) {
		return nil, api.ErrRange
	}
	ways := waysOf(a.Samples)
	var list []api.Hill
	for from := 0; from < len(a.Samples); {
		peak, end := ascent(a.Samples, from, dip)
		rise := a.Samples[peak].Z - a.Samples[from].Z
		if rise < least {
			// All samples before the end are no lower than this one: a hill from one of them ends before the end too, and rises no more.
			from = end
			continue
		}
		list = append(list, api.Hill{From: from, To: peak, Rise: rise, Way: ways[peak] - ways[from]})
		from = peak + 1
	}
	return list, api.OK
}

// ascent returns the last one of the highest samples that a hill can have that begins with from, and the first one that it can't have.
func ascent(l []api.Sample, from, dip int) (peak, end int) {
	peak = from
	for end = from + 1; end < len(l); end++ {
		z := l[end].Z
		if z < l[from].Z || l[peak].Z-z > dip {
			break
		}
		if z >= l[peak].Z {
			peak = end
		}
	}
	return peak, end
}
