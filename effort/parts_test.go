package effort_test

import (
	"fmt"
	"math"
	"math/rand"
	"testing"

	"harrier/api"
	"harrier/effort"
	"harrier/record"
)

// slowPart adds up the seconds of streams.
func slowPart(a api.Activity, from, to int) api.Part {
	x := api.Part{From: from, To: to}
	for second := from; second < to; second++ {
		x.Way += slowSecond(a, api.StreamWay, second)
		x.Climb += slowSecond(a, api.StreamClimb, second)
		if n := slowSecond(a, api.StreamPulse, second); n != -1 {
			x.Pulse, x.PulseKnown = x.Pulse+n, x.PulseKnown+1
		}
		if n := slowSecond(a, api.StreamPower, second); n != -1 {
			x.Power, x.PowerKnown = x.Power+n, x.PowerKnown+1
		}
		if n := slowSecond(a, api.StreamSteps, second); n != -1 {
			x.Steps, x.StepKnown = x.Steps+n, x.StepKnown+1
		}
	}
	return x
}

const noPart = "{0 0 0 0 0 0 0 0 0 0}"

func TestD4PartOf(t *testing.T) {
	for _, c := range []struct {
		from, to int
		want     string
	}{
		{0, 70, "{0 70 67 11 1030 600 80 9 8 1} 0"}, {0, 3, "{0 3 50 10 300 600 0 3 3 0} 0"}, {1, 2, "{1 2 17 3 100 200 0 1 1 0} 0"},
		{2, 65, "{2 65 18 4 220 200 0 2 2 0} 0"}, {3, 64, "{3 64 0 0 0 0 0 0 0 0} 0"}, {66, 68, "{66 68 3 0 240 0 0 2 2 0} 0"}, {69, 70, "{69 70 10 1 130 0 80 1 0 1} 0"},
		{0, 0, noPart + " 0"}, {5, 5, "{5 5 0 0 0 0 0 0 0 0} 0"}, {70, 70, "{70 70 0 0 0 0 0 0 0 0} 0"},
		{-1, 3, noPart + " 9"}, {0, 71, noPart + " 9"}, {71, 71, noPart + " 9"}, {3, 2, noPart + " 9"}, {-1, -1, noPart + " 9"},
		{math.MinInt, math.MaxInt, noPart + " 9"}, {math.MaxInt, math.MinInt, noPart + " 9"}, {0, math.MaxInt, noPart + " 9"},
	} {
		x, e := effort.PartOf(full(), c.from, c.to)
		want(t, fmt.Sprint("PartOf ", c.from, " to ", c.to), told(x, e), c.want)
	}
	for _, a := range []api.Activity{walk(), walk([]int{0})} {
		x, e := effort.PartOf(a, 0, 0)
		want(t, "no seconds", told(x, e), noPart+" 0")
		x, e = effort.PartOf(a, 0, 1)
		want(t, "too many seconds", told(x, e), noPart+" 9")
	}
	randoms(func(r *rand.Rand, a api.Activity) {
		from := r.Intn(record.Span(a) + 1)
		to := from + r.Intn(record.Span(a)+1-from)
		x, e := effort.PartOf(a, from, to)
		want(t, fmt.Sprint("PartOf ", from, " to ", to, " of ", a), told(x, e), told(slowPart(a, from, to), api.OK))
	})
}

func TestD4Parts(t *testing.T) {
	l, e := effort.Parts(full())
	want(t, "Parts", told(l, e), "[{1 3 34 7 200 400 0 2 2 0} {3 66 2 0 240 0 0 2 2 0} {68 70 12 1 250 0 80 2 1 1}] 0")
	a := full()
	a.Laps = nil
	l, e = effort.Parts(a)
	want(t, "no laps", told(l, e), "[] 0")
	randoms(func(r *rand.Rand, a api.Activity) {
		list := []api.Part{}
		for _, x := range a.Laps {
			list = append(list, slowPart(a, x.From, x.To))
		}
		l, e := effort.Parts(a)
		want(t, fmt.Sprint("Parts of ", a), told(l, e), told(list, api.OK))
	})
}

// slowEveryWay looks for the end of each lap from its beginning on.
func slowEveryWay(a api.Activity, way int) ([]api.Lap, api.Errno) {
	var list []api.Lap
	for from := 0; from < record.Span(a); {
		to, gone := from, 0
		for to < record.Span(a) && gone < way {
			gone += slowSecond(a, api.StreamWay, to)
			to++
		}
		list = append(list, api.Lap{From: from, To: to})
		from = to
	}
	if len(list) > api.MaxLaps {
		return nil, api.ErrSize
	}
	return list, api.OK
}

// line makes an activity of so many seconds, with so many decimetres in each.
func line(seconds, fast int) api.Activity {
	a := walk([]int{0})
	for i := range seconds {
		a.Samples = append(a.Samples, api.Sample{At: i + 1, X: (i + 1) * fast, Pulse: -1, Power: -1, Steps: -1})
	}
	return a
}

func TestD4EveryWay(t *testing.T) {
	for _, c := range []struct {
		way  int
		want string
	}{
		{16, "[{0 1 } {1 2 } {2 3 } {3 70 }] 0"}, {17, "[{0 2 } {2 3 } {3 70 }] 0"}, {20, "[{0 2 } {2 67 } {67 70 }] 0"}, {33, "[{0 2 } {2 70 }] 0"}, {50, "[{0 3 } {3 70 }] 0"},
		{51, "[{0 65 } {65 70 }] 0"}, {67, "[{0 70 }] 0"}, {68, "[{0 70 }] 0"}, {1000000000, "[{0 70 }] 0"},
		{0, "[] 9"}, {-1, "[] 9"}, {1000000001, "[] 9"},
	} {
		l, e := effort.EveryWay(full(), c.way)
		want(t, fmt.Sprint("EveryWay ", c.way), told(l, e), c.want)
	}
	for _, a := range []api.Activity{walk(), walk([]int{0})} {
		l, e := effort.EveryWay(a, 1)
		want(t, "no seconds", told(l, e), "[] 0")
	}
	for _, c := range []struct {
		seconds, fast, way int
		want               string
	}{
		{200, 3, 3, "200 0"}, {201, 3, 3, "0 3"}, {200, 9, 3, "200 0"}, {400, 3, 6, "200 0"}, {401, 3, 6, "0 3"}, {399, 3, 6, "200 0"}, {20, 3, 6, "10 0"}, {21, 3, 6, "11 0"}, {20000 - 1, 1, 100, "200 0"}, {300, 3, 0, "0 9"},
	} {
		l, e := effort.EveryWay(line(c.seconds, c.fast), c.way)
		want(t, fmt.Sprint("EveryWay ", c), told(len(l), e), c.want)
	}
	runRanges(t, []rangeCase{{"EveryWay", 1, 1000000000, func(n int) api.Errno { _, e := effort.EveryWay(full(), n); return e }}})
	randoms(func(r *rand.Rand, a api.Activity) {
		way := 1 + r.Intn(1+r.Intn(300))
		l, e := effort.EveryWay(a, way)
		list, wanted := slowEveryWay(a, way)
		want(t, fmt.Sprint("EveryWay ", way, " of ", a), told(l, e), told(list, wanted))
	})
}

func TestD4EveryTime(t *testing.T) {
	for _, c := range []struct {
		seconds int
		want    string
	}{
		{20, "[{0 20 } {20 40 } {40 60 } {60 70 }] 0"}, {35, "[{0 35 } {35 70 }] 0"}, {69, "[{0 69 } {69 70 }] 0"}, {70, "[{0 70 }] 0"}, {71, "[{0 70 }] 0"}, {1000000, "[{0 70 }] 0"},
		{0, "[] 9"}, {-1, "[] 9"}, {1000001, "[] 9"},
	} {
		l, e := effort.EveryTime(full(), c.seconds)
		want(t, fmt.Sprint("EveryTime ", c.seconds), told(l, e), c.want)
	}
	for _, a := range []api.Activity{walk(), walk([]int{0})} {
		l, e := effort.EveryTime(a, 1)
		want(t, "no seconds", told(l, e), "[] 0")
	}
	for _, c := range []struct {
		span, seconds int
		want          string
	}{
		{200, 1, "200 0"}, {201, 1, "0 3"}, {400, 2, "200 0"}, {401, 2, "0 3"}, {399, 2, "200 0"}, {1000000, 5000, "200 0"}, {1000000, 4999, "0 3"}, {1000000, 1, "0 3"}, {1000000, 1000000, "1 0"}, {201, 0, "0 9"},
	} {
		l, e := effort.EveryTime(walk([]int{0}, []int{c.span}), c.seconds)
		want(t, fmt.Sprint("EveryTime ", c), told(len(l), e), c.want)
	}
	runRanges(t, []rangeCase{{"EveryTime", 1, 1000000, func(n int) api.Errno { _, e := effort.EveryTime(full(), n); return e }}})
	// Laps are right ones: an activity can have them.
	randoms(func(r *rand.Rand, a api.Activity) {
		seconds := 1 + r.Intn(300)
		var e api.Errno
		a.Laps, e = effort.EveryTime(a, seconds)
		if e == api.OK {
			want(t, fmt.Sprint("Check with laps ", a.Laps), told(record.Check(a), sumOfLaps(a.Laps)), told(api.OK, record.Span(a)))
		}
	})
}

func sumOfLaps(l []api.Lap) int {
	sum := 0
	for _, x := range l {
		sum += x.To - x.From
	}
	return sum
}
