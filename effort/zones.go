package effort

import "harrier/api"

// Zones returns how many seconds of a stream lie in each zone, and how many are not known.
func Zones(l []int, zones []int) ([]int, int, api.Errno) {
	if e := CheckStream(l); e != api.OK {
		return nil, 0, e
	}
	if e := CheckZones(zones); e != api.OK {
		return nil, 0, e
	}
	seconds, unknown := make([]int, len(zones)+1), 0
	for _, n := range l {
		if n < 0 {
			unknown++
		} else {
			seconds[zoneOf(n, zones)]++
		}
	}
	return seconds, unknown, api.OK
}

// zoneOf returns how many limits n has reached.
func zoneOf(n int, zones []int) int {
	zone := 0
	for zone < len(zones) && zones[zone] <= n {
		zone++
	}
	return zone
}
