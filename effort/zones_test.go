package effort_test

import (
	"fmt"
	"math/rand"
	"slices"
	"testing"

	"harrier/api"
	"harrier/effort"
)

// slowZones asks each zone for its seconds.
func slowZones(l, zones []int) ([]int, int) {
	limits := slices.Concat([]int{0}, zones, []int{effort.MaxValue + 1})
	counts := []int{}
	unknown := 0
	for i := 1; i < len(limits); i++ {
		n := 0
		for _, x := range l {
			if limits[i-1] <= x && x < limits[i] {
				n++
			}
		}
		counts = append(counts, n)
	}
	for _, x := range l {
		if x == -1 {
			unknown++
		}
	}
	return counts, unknown
}

func TestD3Zones(t *testing.T) {
	l := []int{1, 5, 2, -1, 9, -1, 6}
	for _, c := range []struct {
		l, zones []int
		want     string
	}{
		{l, []int{2, 6}, "[1 2 2] 2 0"}, {l, nil, "[5] 2 0"}, {l, []int{0}, "[0 5] 2 0"}, {l, []int{9}, "[4 1] 2 0"}, {l, []int{10}, "[5 0] 2 0"}, {l, []int{1, 2, 3}, "[0 1 1 3] 2 0"},
		{nil, []int{2, 6}, "[0 0 0] 0 0"}, {nil, nil, "[0] 0 0"}, {[]int{1000000000, 999999999}, []int{1000000000}, "[1 1] 0 0"},
		{l, rising(0, 20), "[0 0 1 1 0 0 1 1 0 0 1 0 0 0 0 0 0 0 0 0 0] 2 0"},
		{l, rising(0, 21), "[] 0 3"}, {l, []int{-1}, "[] 0 9"}, {l, []int{2, 2}, "[] 0 10"},
	} {
		x, n, e := effort.Zones(c.l, c.zones)
		want(t, fmt.Sprint("Zones ", c.zones, " of ", c.l), told(x, n, e), c.want)
	}
	streams(func(r *rand.Rand, l []int) {
		var zones []int
		for next := r.Intn(3); next < 20 && r.Intn(6) > 0; next += 1 + r.Intn(4) {
			zones = append(zones, next)
		}
		x, n, e := effort.Zones(l, zones)
		counts, unknown := slowZones(l, zones)
		want(t, fmt.Sprint("Zones ", zones, " of ", l), told(x, n, e), told(counts, unknown, api.OK))
	})
}
