package quant

import "harrier/api"

const (
	leastOffset = -720 // minutes
	mostOffset  = 840
)

func isOffset(n int) bool { return n >= leastOffset && n <= mostOffset }

func isMoment(n int) bool { return n >= 0 && n <= api.MaxMoment }

// CheckZone returns what is wrong with a zone.
func CheckZone(z api.Zone) api.Errno {
	if len(z.Changes) > MaxChanges {
		return api.ErrSize
	}
	if !isOffset(z.First) {
		return api.ErrRange
	}
	before := -1
	for _, c := range z.Changes {
		if !isMoment(c.From) || !isOffset(c.Offset) {
			return api.ErrRange
		}
		if c.From <= before {
			return api.ErrOrder
		}
		before = c.From
	}
	return api.OK
}

// Offset returns how many minutes clocks are ahead of UTC at a moment.
func Offset(z api.Zone, moment int) (int, api.Errno) {
	if e := CheckZone(z); e != api.OK {
		return 0, e
	}
	if !isMoment(moment) {
		return 0, api.ErrRange
	}
	offset := z.First
	for _, c := range z.Changes {
		if c.From > moment {
			break
		}
		offset = c.Offset
	}
	return offset, api.OK
}

// Local returns the day, and the second of this day, that clocks show at a moment.
func Local(z api.Zone, moment int) (day, second int, e api.Errno) {
	offset, e := Offset(z, moment)
	if e != api.OK {
		return 0, 0, e
	}
	shown := moment + 60*offset
	if !isMoment(shown) {
		return 0, 0, api.ErrRange
	}
	return shown / api.DayLong, shown % api.DayLong, api.OK
}

// Moments returns all moments at which clocks show this.
func Moments(z api.Zone, day, second int) ([]int, api.Errno) {
	if e := CheckZone(z); e != api.OK {
		return nil, e
	}
	if !isDay(day) || second < 0 || second >= api.DayLong {
		return nil, api.ErrRange
	}
	var l []int
	shown := day*api.DayLong + second
	from, offset := 0, z.First
	// Between two changes at most one moment is shown so, and these come one behind the other.
	add := func(before int) {
		if m := shown - 60*offset; m >= from && m < before {
			l = append(l, m)
		}
	}
	for _, c := range z.Changes {
		add(c.From)
		from, offset = c.From, c.Offset
	}
	add(api.MaxMoment + 1)
	return l, api.OK
}

// StampText writes what clocks show at a moment, `YYYY-MM-DD HH:MM:SS`.
func StampText(z api.Zone, moment int) (string, api.Errno) {
	day, second, e := Local(z, moment)
	if e != api.OK {
		return "", e
	}
	date, e := DateText(day)
	if e != api.OK {
		return "", e
	}
	return date + " " + twoDigits(second/3600) + ":" + twoDigits(second/60%60) + ":" + twoDigits(second%60), api.OK
}

// ReadStamp reads `YYYY-MM-DD HH:MM:SS`, and returns the first or the last moment at which clocks show this.
func ReadStamp(z api.Zone, s string, last bool) (moment, at int, e api.Errno) {
	if e := CheckZone(z); e != api.OK {
		return 0, 0, e
	}
	w, at, e := read(s, MaxText, stampForm)
	if e != api.OK {
		return 0, at, e
	}
	day, e := DayOf(w.year, w.month, w.date)
	if e != api.OK {
		return 0, 0, e
	}
	l, e := Moments(z, day, w.second)
	if e != api.OK {
		return 0, 0, e
	}
	if len(l) == 0 {
		return 0, 0, api.ErrNone
	}
	if last {
		return l[len(l)-1], 0, api.OK
	}
	return l[0], 0, api.OK
}

func stampForm(take taker) (w writtenDate, ok bool) {
	if w, ok = dateForm(take); !ok || !word(take, " ") {
		return w, false
	}
	if w.second, ok = pair(take, 23); !ok {
		return w, false
	}
	for range 2 {
		if !word(take, ":") {
			return w, false
		}
		n, found := pair(take, 59)
		if !found {
			return w, false
		}
		w.second = 60*w.second + n
	}
	return w, true
}
