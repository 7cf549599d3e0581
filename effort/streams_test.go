package effort_test

import (
	"fmt"
	"math"
	"math/big"
	"math/rand"
	"testing"

	"harrier/api"
	"harrier/effort"
	"harrier/record"
	"harrier/track"
)

func length(p, q api.Sample) int {
	x, y := big.NewInt(int64(q.X-p.X)), big.NewInt(int64(q.Y-p.Y))
	sum := x.Mul(x, x)
	return int(sum.Add(sum, y.Mul(y, y)).Sqrt(sum).Int64())
}

// slowSecond looks for the step of a second, and tells what the second has of a kind.
func slowSecond(a api.Activity, kind, second int) int {
	i := 0
	for a.Samples[i+1].At <= second {
		i++
	}
	p, q := a.Samples[i], a.Samples[i+1]
	idle := q.At-p.At > 60
	if kind <= api.StreamSteps {
		if idle {
			return -1
		}
		return map[int]int{api.StreamPulse: p.Pulse, api.StreamPower: p.Power, api.StreamSteps: p.Steps}[kind]
	}
	long := length(p, q)
	if kind == api.StreamClimb {
		long = max(q.Z-p.Z, 0)
	}
	if idle {
		return 0
	}
	j, n := second-p.At, q.At-p.At
	return long*(j+1)/n - long*j/n
}

func slowStream(a api.Activity, kind int) []int {
	l := []int{}
	for second := range record.Span(a) {
		l = append(l, slowSecond(a, kind, second))
	}
	return l
}

func TestD1Stream(t *testing.T) {
	a := full()
	idle := fmt.Sprint(same(61, -1))
	idle = idle[1 : len(idle)-1]
	still := fmt.Sprint(same(61, 0))
	still = still[1 : len(still)-1]
	for _, c := range []struct {
		kind int
		want string
	}{
		{api.StreamPulse, "[100 100 100 " + idle + " 120 120 120 120 120 130] 0"},
		{api.StreamPower, "[200 200 200 " + idle + " 0 0 0 0 0 -1] 0"},
		{api.StreamSteps, "[-1 -1 -1 " + idle + " -1 -1 -1 -1 -1 80] 0"},
		{api.StreamWay, "[16 17 17 " + still + " 1 1 2 1 2 10] 0"},
		{api.StreamClimb, "[3 3 4 " + still + " 0 0 0 0 0 1] 0"},
		{0, "[] 7"}, {6, "[] 7"}, {-1, "[] 7"}, {math.MaxInt, "[] 7"}, {math.MinInt, "[] 7"},
	} {
		l, e := effort.Stream(a, c.kind)
		want(t, fmt.Sprint("stream ", c.kind), told(l, e), c.want)
	}
	// A step of MaxGap seconds is not idle.
	l, e := effort.Stream(walk([]int{0}, []int{60, 0, 120, 60}), api.StreamWay)
	want(t, "a step of a minute", told(l, e), told(same(60, 2), api.OK))
	l, e = effort.Stream(walk([]int{0}, []int{61, 0, 122, 61}), api.StreamWay)
	want(t, "a step of more than a minute", told(l, e), told(same(61, 0), api.OK))
	for kind := api.StreamPulse; kind <= api.StreamClimb; kind++ {
		for _, a := range []api.Activity{walk(), walk([]int{0, 5, 5, 5})} {
			l, e := effort.Stream(a, kind)
			want(t, "no steps", told(l, e), "[] 0")
		}
		randoms(func(r *rand.Rand, a api.Activity) {
			l, e := effort.Stream(a, kind)
			want(t, fmt.Sprint("stream ", kind, " of ", a), told(l, e), told(slowStream(a, kind), api.OK))
		})
	}
}

// TestD1StreamEnds has the longest steps in ways, heights and seconds.
func TestD1StreamEnds(t *testing.T) {
	a := walk([]int{0, -100000000, -100000000, -100000}, []int{60, 100000000, 100000000, 100000}, []int{1000000, 0, 0, -100000})
	for kind, sum := range map[int]int{api.StreamWay: 282842712, api.StreamClimb: 200000} {
		l, e := effort.Stream(a, kind)
		got := 0
		for _, n := range l {
			got += n
		}
		want(t, fmt.Sprint("stream ", kind), told(len(l), got, l[0], l[59]-l[0] < 2, l[60], e), told(1000000, sum, sum/60, true, 0, api.OK))
	}
	a.Samples[0].Pulse, a.Samples[0].Power, a.Samples[0].Steps = 300, 3000, 300
	for kind, most := range map[int]int{api.StreamPulse: 300, api.StreamPower: 3000, api.StreamSteps: 300} {
		l, e := effort.Stream(a, kind)
		want(t, fmt.Sprint("stream ", kind), told(len(l), l[0], l[59], l[60], l[999999], e), told(1000000, most, most, -1, -1, api.OK))
	}
}

// TestD1SecondsAddUp: without idle steps the way of the seconds is that of the track, and what they climb is all that Z grows.
func TestD1SecondsAddUp(t *testing.T) {
	randoms(func(r *rand.Rand, a api.Activity) {
		idle, _ := track.Idle(a, effort.MaxGap)
		if len(idle) > 0 || len(a.Samples) == 0 {
			return
		}
		ways, _ := track.Ways(a)
		climb, _ := track.Climb(a, 0)
		x, e := effort.PartOf(a, 0, record.Span(a))
		want(t, fmt.Sprint("way and climb of ", a), told(x.Way, x.Climb, e), told(ways[len(ways)-1], climb.Up, api.OK))
	})
}
