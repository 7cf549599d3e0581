package load

import (
	"sort"

	"harrier/api"
)

const (
	minRaceWay     = 1_000
	maxRaceWay     = 10_000_000 // also of a prediction
	maxRaceSeconds = 1_000_000
	maxSlower      = 200
	maxReach       = 1_000_000_000 // seconds
)

// CheckRaces returns what is wrong with races.
func CheckRaces(l []api.Race) api.Errno {
	if len(l) == 0 {
		return api.ErrEmpty
	}
	if len(l) > MaxRaces {
		return api.ErrSize
	}
	for i, x := range l {
		if !within(x.Way, minRaceWay, maxRaceWay) || !within(x.Seconds, 1, maxRaceSeconds) {
			return api.ErrRange
		}
		if i > 0 && (x.Way <= l[i-1].Way || x.Seconds <= l[i-1].Seconds) {
			return api.ErrOrder
		}
	}
	return api.OK
}

// Predict returns in how many seconds a way would be done.
func Predict(l []api.Race, way, slower int) (int, api.Errno) {
	if e := CheckRaces(l); e != api.OK {
		return 0, e
	}
	if !within(way, 1, maxRaceWay) || !within(slower, 0, maxSlower) {
		return 0, api.ErrRange
	}
	return predict(l, way, slower), api.OK
}

func predict(l []api.Race, way, slower int) int {
	var before api.Race // ahead of the first one no way takes no time
	for _, x := range l {
		if way < x.Way {
			return max(between(before, x, way), 1)
		}
		before = x
	}
	next := doubled(before, slower)
	for way >= next.Way {
		before, next = next, doubled(next, slower)
	}
	return between(before, next, way)
}

// between returns the seconds of a way on the straight line from a to b; just those of a for its Way.
func between(a, b api.Race, way int) int {
	return a.Seconds + (way-a.Way)*(b.Seconds-a.Seconds)/(b.Way-a.Way)
}

// doubled returns a race over twice the way, done slower.
func doubled(x api.Race, slower int) api.Race {
	seconds := 2 * x.Seconds
	return api.Race{Way: 2 * x.Way, Seconds: seconds + seconds*slower/1000}
}

// Reach returns the greatest way that would be done in so many seconds.
func Reach(l []api.Race, seconds, slower int) (int, api.Errno) {
	if e := CheckRaces(l); e != api.OK {
		return 0, e
	}
	if !within(seconds, 1, maxReach) || !within(slower, 0, maxSlower) {
		return 0, api.ErrRange
	}
	// A search by halves, as a longer way never takes fewer seconds.
	way := sort.Search(maxRaceWay, func(way int) bool { return predict(l, way+1, slower) > seconds })
	if way == 0 {
		return 0, api.ErrNone
	}
	return way, api.OK
}
