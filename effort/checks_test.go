package effort_test

import (
	"fmt"
	"math"
	"testing"

	"harrier/api"
	"harrier/effort"
)

func TestD1CheckStream(t *testing.T) {
	for _, c := range []struct {
		l    []int
		want api.Errno
	}{
		{nil, api.OK}, {[]int{}, api.OK}, {[]int{-1}, api.OK}, {[]int{0, 1000000000, -1}, api.OK},
		{[]int{-2}, api.ErrRange}, {[]int{5, 1000000001}, api.ErrRange}, {[]int{math.MinInt}, api.ErrRange}, {[]int{0, math.MaxInt, 0}, api.ErrRange},
	} {
		want(t, fmt.Sprint("CheckStream ", c.l), told(effort.CheckStream(c.l)), told(c.want))
	}
	want(t, "the longest stream", told(effort.CheckStream(same(1000000, 1000000000))), "0")
	want(t, "the longest stream, and a wrong number", told(effort.CheckStream(append(same(999999, 0), -2))), "9")
	want(t, "too long a stream", told(effort.CheckStream(same(1000001, 0))), "3")
	want(t, "too long a stream, and wrong numbers", told(effort.CheckStream(same(1000001, -2))), "3")
}

func TestD1CheckSizes(t *testing.T) {
	for _, c := range []struct {
		l    []int
		want api.Errno
	}{
		{nil, api.ErrEmpty}, {[]int{}, api.ErrEmpty},
		{[]int{1}, api.OK}, {[]int{1000000}, api.OK}, {[]int{1, 2, 1000000}, api.OK}, {rising(1, 100), api.OK}, {rising(999901, 100), api.OK},
		{rising(1, 101), api.ErrSize}, {rising(0, 101), api.ErrSize}, {same(101, 5), api.ErrSize},
		{[]int{0}, api.ErrRange}, {[]int{-1}, api.ErrRange}, {[]int{1000001}, api.ErrRange}, {[]int{math.MinInt}, api.ErrRange}, {[]int{1, math.MaxInt}, api.ErrRange},
		{[]int{3, 3}, api.ErrOrder}, {[]int{3, 2}, api.ErrOrder}, {[]int{1, 3, 2}, api.ErrOrder},
		{[]int{3, 0}, api.ErrRange}, {[]int{3, 3, 0}, api.ErrOrder}, {[]int{3, 0, 3}, api.ErrRange},
	} {
		want(t, fmt.Sprint("CheckSizes ", c.l), told(effort.CheckSizes(c.l)), told(c.want))
	}
}

func TestD3CheckZones(t *testing.T) {
	for _, c := range []struct {
		l    []int
		want api.Errno
	}{
		{nil, api.OK}, {[]int{}, api.OK}, {[]int{0}, api.OK}, {[]int{1000000000}, api.OK}, {[]int{0, 1, 1000000000}, api.OK}, {rising(0, 20), api.OK},
		{rising(0, 21), api.ErrSize}, {rising(-1, 21), api.ErrSize}, {same(21, 5), api.ErrSize},
		{[]int{-1}, api.ErrRange}, {[]int{1000000001}, api.ErrRange}, {[]int{math.MinInt}, api.ErrRange}, {[]int{1, math.MaxInt}, api.ErrRange},
		{[]int{3, 3}, api.ErrOrder}, {[]int{3, 2}, api.ErrOrder}, {[]int{1, 3, 2}, api.ErrOrder},
		{[]int{3, -1}, api.ErrRange}, {[]int{3, 3, -1}, api.ErrOrder}, {[]int{3, -1, 3}, api.ErrRange},
	} {
		want(t, fmt.Sprint("CheckZones ", c.l), told(effort.CheckZones(c.l)), told(c.want))
	}
}

func TestD5CheckCurve(t *testing.T) {
	of := func(size, sum, at int) api.Best { return api.Best{Size: size, Sum: sum, At: at, Found: true} }
	for _, c := range []struct {
		c    []api.Best
		want api.Errno
	}{
		{nil, api.ErrEmpty}, {[]api.Best{}, api.ErrEmpty},
		{[]api.Best{{Size: 1}}, api.OK}, {[]api.Best{of(1, 0, 0)}, api.OK}, {someCurve(), api.OK},
		{[]api.Best{of(1, 1000000000, 999999)}, api.OK}, {[]api.Best{of(7, 7000000000, 999993)}, api.OK}, {[]api.Best{of(1000000, 1000000000000000, 0)}, api.OK},
		{[]api.Best{{}}, api.ErrRange}, {[]api.Best{of(1000001, 0, 0)}, api.ErrRange}, {[]api.Best{of(-1, 0, 0)}, api.ErrRange},
		{[]api.Best{of(1, 0, 0), of(1, 0, 0)}, api.ErrOrder}, {[]api.Best{{Size: 2}, {Size: 1}}, api.ErrOrder},
		{[]api.Best{{Size: 1, Sum: 1}}, api.ErrForm}, {[]api.Best{{Size: 1, At: 1}}, api.ErrForm}, {[]api.Best{{Size: 1, Sum: -1}}, api.ErrForm}, {[]api.Best{{Size: 1, At: math.MaxInt}}, api.ErrForm},
		{[]api.Best{of(1, -1, 0)}, api.ErrRange}, {[]api.Best{of(1, 1000000001, 0)}, api.ErrRange}, {[]api.Best{of(7, 7000000001, 0)}, api.ErrRange}, {[]api.Best{of(1, math.MaxInt, 0)}, api.ErrRange},
		{[]api.Best{of(1, 0, -1)}, api.ErrRange}, {[]api.Best{of(1, 0, 1000000)}, api.ErrRange}, {[]api.Best{of(1000000, 0, 1)}, api.ErrRange}, {[]api.Best{of(1, 0, math.MinInt)}, api.ErrRange},
		// All sizes come ahead of what else can be wrong; then it goes by the order of the windows.
		{[]api.Best{{Size: 1, Sum: 1}, {Size: 1}}, api.ErrOrder}, {[]api.Best{{Size: 2, Sum: 1}, {Size: 0}}, api.ErrRange},
		{[]api.Best{of(1, -1, 0), {Size: 2, Sum: 1}}, api.ErrRange}, {[]api.Best{{Size: 1, Sum: 1}, of(2, -1, 0)}, api.ErrForm},
		{curveOf(rising(1, 100)), api.OK}, {curveOf(rising(1, 101)), api.ErrSize}, {curveOf(rising(0, 101)), api.ErrSize},
	} {
		want(t, fmt.Sprint("CheckCurve ", c.c), told(effort.CheckCurve(c.c)), told(c.want))
	}
}

// curveOf makes a curve that has found a window of each size.
func curveOf(sizes []int) []api.Best {
	var c []api.Best
	for _, n := range sizes {
		c = append(c, api.Best{Size: n, Sum: n, At: 1, Found: true})
	}
	return c
}

// TestD1CheckComes first in each function with an activity or a stream, and leaves nothing else as a result.
func TestD1CheckComes(t *testing.T) {
	for name, call := range map[string]func(a api.Activity) string{
		"Stream":    func(a api.Activity) string { l, e := effort.Stream(a, 0); return told(l, e) },
		"Parts":     func(a api.Activity) string { l, e := effort.Parts(a); return told(l, e) },
		"EveryWay":  func(a api.Activity) string { l, e := effort.EveryWay(a, 0); return told(l, e) },
		"EveryTime": func(a api.Activity) string { l, e := effort.EveryTime(a, 0); return told(l, e) },
	} {
		want(t, name+" of a wrong activity", call(wrong()), "[] 8")
	}
	p, e := effort.PartOf(wrong(), -1, -2)
	want(t, "PartOf of a wrong activity", told(p, e), "{0 0 0 0 0 0 0 0 0 0} 8")
	for name, call := range map[string]func(l []int) string{
		"Best":   func(l []int) string { x, e := effort.Best(l, 0); return told(x, e) },
		"Curve":  func(l []int) string { x, e := effort.Curve(l, nil); return told(x, e) },
		"Least":  func(l []int) string { from, to, ok, e := effort.Least(l, 0); return told(from, to, ok, e) },
		"Smooth": func(l []int) string { x, e := effort.Smooth(l, 0); return told(x, e) },
		"Hard":   func(l []int) string { n, ok, e := effort.Hard(l); return told(n, ok, e) },
		"Zones":  func(l []int) string { x, n, e := effort.Zones(l, rising(-1, 21)); return told(x, n, e) },
	} {
		nothing := map[string]string{"Best": "{0 0 0 false}", "Least": "0 0 false", "Hard": "0 false", "Zones": "[] 0", "Curve": "[]", "Smooth": "[]"}[name]
		want(t, name+" of too long a stream", call(same(1000001, 10001)), nothing+" 3")
		want(t, name+" of a stream with a wrong number", call([]int{-2}), nothing+" 9")
	}
	l, n, e := effort.Zones(same(1000001, 0), []int{-1})
	want(t, "Zones of too long a stream with wrong limits", told(l, n, e), "[] 0 3")
}
