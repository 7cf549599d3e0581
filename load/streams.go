package load

import (
	"slices"

	"harrier/api"
	"harrier/effort"
)

const (
	maxWeight = 1_000
	maxStore  = 1_000_000 // joules
)

// Power returns the load of a stream of power, if it can be told how hard it is.
func Power(l []int, threshold int) (int, bool, api.Errno) {
	hard, ok, e := effort.Hard(l)
	if e != api.OK {
		return 0, false, e
	}
	if !within(threshold, 1, maxPower) {
		return 0, false, api.ErrRange
	}
	if !ok {
		return 0, false, api.OK
	}
	known := 0
	for _, n := range l {
		if n >= 0 {
			known++
		}
	}
	return hard * hard * known * 100 / (3600 * threshold * threshold), true, api.OK
}

// Pulse returns the load of a stream by how long it lies in each zone.
func Pulse(l []int, zones, weights []int) (int, api.Errno) {
	seconds, _, e := effort.Zones(l, zones)
	if e != api.OK {
		return 0, e
	}
	if len(weights) != len(seconds) {
		return 0, api.ErrForm
	}
	sum := 0
	for i, w := range weights {
		if !within(w, 0, maxWeight) {
			return 0, api.ErrRange
		}
		sum += seconds[i] * w
	}
	return sum / 60, api.OK
}

// Balance returns what is left of a store behind each second of a stream of power.
func Balance(l []int, power, work int) ([]int, api.Errno) {
	if e := effort.CheckStream(l); e != api.OK {
		return nil, e
	}
	if slices.ContainsFunc(l, func(n int) bool { return n > maxPower }) {
		return nil, api.ErrRange
	}
	if !within(power, 1, maxPower) || !within(work, 1, maxStore) {
		return nil, api.ErrRange
	}
	list, left := make([]int, len(l)), work
	for i, n := range l {
		if n > power {
			left -= n - power
		} else {
			left = min(left+(power-max(n, 0))*(work-left)/work, work)
		}
		list[i] = left
	}
	return list, api.OK
}

// Empty returns the first second behind which less than nothing is left of a store.
func Empty(l []int, power, work int) (int, bool, api.Errno) {
	list, e := Balance(l, power, work)
	if e != api.OK {
		return 0, false, e
	}
	at := slices.IndexFunc(list, func(left int) bool { return left < 0 })
	if at < 0 {
		return 0, false, api.OK
	}
	return at, true, api.OK
}
