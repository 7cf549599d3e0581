package track_test

import (
	"fmt"
	"math"
	"math/big"
	"math/rand"
	"slices"
	"strings"
	"testing"

	"harrier/api"
	"harrier/record"
	"harrier/track"
)

// placed returns the sample at a second between p and q.
func placed(p, q api.Sample, second int) api.Sample {
	x := p
	x.At = second
	part := func(p, q int, at api.Sample, whole int) int {
		n := new(big.Rat).Mul(big.NewRat(int64(q-p), 1), big.NewRat(int64(second-at.At), int64(whole)))
		return rounded(n.Add(n, big.NewRat(int64(p), 1)))
	}
	x.X, x.Y, x.Z = part(p.X, q.X, p, q.At-p.At), part(p.Y, q.Y, p, q.At-p.At), part(p.Z, q.Z, p, q.At-p.At)
	return x
}

// slowAt looks at all samples.
func slowAt(a api.Activity, second int) api.Sample {
	for i, x := range a.Samples {
		if x.At == second {
			return x
		}
		if x.At > second {
			return placed(a.Samples[i-1], x, second)
		}
	}
	panic("no such second")
}

func TestC8At(t *testing.T) {
	a := walk([]int{0, 0, 0, 0}, []int{10, 30, 40, 12}, []int{13, 31, 38, -12})
	a.Samples[0].Pulse, a.Samples[0].Power, a.Samples[0].Steps = 100, 200, 80
	a.Samples[1].Pulse, a.Samples[2].Power = 110, 210
	for second, s := range map[int]string{
		0: "{0 0 0 0 100 200 80} 0", 5: "{5 15 20 6 100 200 80} 0", 9: "{9 27 36 11 100 200 80} 0", 10: "{10 30 40 12 110 -1 -1} 0",
		11: "{11 30 39 4 110 -1 -1} 0", 12: "{12 31 39 -4 110 -1 -1} 0", 13: "{13 31 38 -12 -1 210 -1} 0",
		14: "{0 0 0 0 0 0 0} 9", -1: "{0 0 0 0 0 0 0} 9", math.MaxInt: "{0 0 0 0 0 0 0} 9", math.MinInt: "{0 0 0 0 0 0 0} 9",
	} {
		x, e := track.At(a, second)
		want(t, fmt.Sprint("At ", second), told(x, e), s)
	}
	x, e := track.At(walk([]int{0, 1, 2, 3}), 0)
	want(t, "one sample", told(x, e), "{0 1 2 3 -1 -1 -1} 0")
	for _, second := range []int{0, 1, -1} {
		x, e = track.At(walk(), second)
		want(t, "without samples", told(x, e), "{0 0 0 0 0 0 0} 13")
	}
	// Halves go up, on the way down too.
	x, e = track.At(walk([]int{0, 0, -1, 1}, []int{2, 1, 0, 0}), 1)
	want(t, "halves", told(x, e), "{1 1 0 1 -1 -1 -1} 0")
	x, e = track.At(walk([]int{0, -100000000, 100000000, -100000}, []int{1000000, 100000000, -100000000, 100000}), 999999)
	want(t, "the longest step", told(x, e), "{999999 99999800 -99999800 100000 -1 -1 -1} 0")
	randoms(15, 100, func(r *rand.Rand, a api.Activity) {
		for second := range record.Span(a) + 1 {
			if len(a.Samples) > 0 {
				x, e := track.At(a, second)
				want(t, fmt.Sprint("At ", second, " of ", a.Samples), told(x, e), told(slowAt(a, second), api.OK))
			}
		}
	})
}

func TestC8Seconds(t *testing.T) {
	list := func(a api.Activity, most int) (l []string) {
		for x := range track.Seconds(a.Samples) {
			if len(l) == most {
				break
			}
			l = append(l, told(x))
		}
		return l
	}
	want(t, "without samples", told(list(walk(), 9)), "[]")
	want(t, "one sample", told(list(walk([]int{0, 1, 2, 3}), 9)), "[{0 1 2 3 -1 -1 -1}]")
	a := walk([]int{0, 0, 0, 0}, []int{3, 30, 3, -3}, []int{4, 7, 7, 7})
	all := "[{0 0 0 0 -1 -1 -1} {1 10 1 -1 -1 -1 -1} {2 20 2 -2 -1 -1 -1} {3 30 3 -3 -1 -1 -1} {4 7 7 7 -1 -1 -1}"
	want(t, "all of them", told(list(a, 9)), all+"]")
	for most, end := range map[int]int{0: 1, 1: 19, 2: 40, 3: 61, 4: 82} {
		want(t, told("not more than", most), told(list(a, most)), strings.TrimSuffix(all[:end], " ")+"]")
	}
	randoms(16, 100, func(r *rand.Rand, a api.Activity) {
		var slow []string
		for second := range record.Span(a) + 1 {
			if len(a.Samples) > 0 {
				slow = append(slow, told(slowAt(a, second)))
			}
		}
		want(t, fmt.Sprint("Seconds of ", a.Samples), told(list(a, api.MaxSpan)), told(slow))
	})
}

// missed is the error of sample k between i and j.
func missed(l []api.Sample, i, k, j int) *big.Int {
	return squares(l[k], placed(l[i], l[j], l[k].At))
}

func isAbove(n *big.Int, most int) bool {
	m := big.NewInt(int64(most))
	return n.Cmp(m.Mul(m, m)) > 0
}

// slowSimple calls itself for both parts.
func slowSimple(l []api.Sample, i, j, most int) []int {
	worst, far := 0, big.NewInt(-1)
	for k := i + 1; k < j; k++ {
		if n := missed(l, i, k, j); n.Cmp(far) > 0 {
			worst, far = k, n
		}
	}
	if !isAbove(far, most) || worst == 0 {
		return []int{i, j}
	}
	return append(slowSimple(l, i, worst, most), slowSimple(l, worst, j, most)[1:]...)
}

// slowFewest looks at all lists.
func slowFewest(l []api.Sample, most int) []int {
	var best []int
	lists(len(l), func(x []int) {
		if len(x) == 0 || x[0] != 0 || x[len(x)-1] != len(l)-1 || best != nil && len(x) >= len(best) {
			return
		}
		for n := 1; n < len(x); n++ {
			for k := x[n-1] + 1; k < x[n]; k++ {
				if isAbove(missed(l, x[n-1], k, x[n]), most) {
					return
				}
			}
		}
		best = x
	})
	return best
}

// thinning is Simple or Fewest.
type thinning func(a api.Activity, most int) ([]int, api.Errno)

func runThinnings(t *testing.T, what string, thin thinning, most int) {
	runRanges(t, []rangeCase{{what, 0, 100000000, func(n int) api.Errno { _, e := thin(full(), n); return e }}})
	l, e := thin(long(most), 0)
	want(t, what+" of the most samples", told(l, e), fmt.Sprintf("[0 %d] 0", most-1))
	l, e = thin(long(most+1), 0)
	want(t, what+" of too many samples", told(l, e), "[] 3")
	l, e = thin(long(most+1), -1)
	want(t, what+", range ahead of size", told(l, e), "[] 9")
	for many, s := range []string{"[] 0", "[0] 0", "[0 1] 0", "[0 2] 0"} {
		l, e = thin(long(many), 0)
		want(t, fmt.Sprint(what, " of ", many, " samples"), told(l, e), s)
	}
	// Where somebody was when counts too, not only the way.
	l, e = thin(walk([]int{0}, []int{1, 9}, []int{2, 10}), 3)
	want(t, what+" of a straight way", told(l, e), "[0 1 2] 0")
	l, e = thin(walk([]int{0}, []int{1, 9}, []int{2, 10}), 4)
	want(t, what+" of a straight way", told(l, e), "[0 2] 0")
	// Z does not count.
	l, e = thin(hills(0, 9, 0), 0)
	want(t, what+" of heights", told(l, e), "[0 2] 0")
	far := walk([]int{0, -100000000, -100000000}, []int{500000, 100000000, 100000000}, []int{1000000, -100000000, -100000000})
	l, e = thin(far, 100000000)
	want(t, what+" of the longest ways", told(l, e), "[0 1 2] 0")
	far = walk([]int{0, -100000000, 0}, []int{500000, 0, 0}, []int{1000000, -100000000, 0})
	l, e = thin(far, 100000000)
	want(t, what+" of long ways", told(l, e), "[0 2] 0")
	l, e = thin(far, 99999999)
	want(t, what+" of long ways", told(l, e), "[0 1 2] 0")
}

func TestC8Simple(t *testing.T) {
	a := walk([]int{0, 0, 0}, []int{10, 10, 3}, []int{20, 20, 8}, []int{30, 30, 0})
	for most, s := range map[int]string{0: "[0 1 2 3] 0", 1: "[0 2 3] 0", 4: "[0 2 3] 0", 7: "[0 2 3] 0", 8: "[0 3] 0"} {
		l, e := track.Simple(a, most)
		want(t, fmt.Sprint("Simple ", most), told(l, e), s)
	}
	runThinnings(t, "Simple", track.Simple, 5000)
	// Of several with the greatest error the first one.
	l, e := track.Simple(walk([]int{0}, []int{1, 0, 5}, []int{2, 0, 5}, []int{3, 0, 5}, []int{4}), 2)
	want(t, "three alike", told(l, e), "[0 1 3 4] 0")
	randoms(20, 60, func(r *rand.Rand, a api.Activity) {
		most := r.Intn(1 + r.Intn(60))
		l, e := track.Simple(a, most)
		slow := []int{0}[:min(len(a.Samples), 1)]
		if n := len(a.Samples); n > 1 {
			slow = slowSimple(a.Samples, 0, n-1, most)
		}
		want(t, fmt.Sprint("Simple ", most, " of ", a.Samples), told(l, e), told(slow, api.OK))
	})
}

// TestC8SimpleDeep has each sample kept by itself, so that there are as many parts as can be.
func TestC8SimpleDeep(t *testing.T) {
	a := long(5000)
	for i := range a.Samples {
		a.Samples[i].X = i * i
	}
	l, e := track.Simple(a, 0)
	want(t, "of a parabola", told(len(l), slices.IsSorted(l), e), "5000 true 0")
	for i := range a.Samples {
		a.Samples[i].X = 5000 * (i % 2) * (5000 - i)
	}
	l, e = track.Simple(a, 0)
	want(t, "of a zigzag", told(len(l), slices.IsSorted(l), e), "5000 true 0")
}

func TestC8Fewest(t *testing.T) {
	a := walk([]int{0, 0, 0}, []int{10, 10, 3}, []int{20, 20, 8}, []int{30, 30, 0})
	for most, s := range map[int]string{0: "[0 1 2 3] 0", 1: "[0 2 3] 0", 5: "[0 2 3] 0", 6: "[0 1 3] 0", 7: "[0 1 3] 0", 8: "[0 3] 0"} {
		l, e := track.Fewest(a, most)
		want(t, fmt.Sprint("Fewest ", most), told(l, e), s)
	}
	runThinnings(t, "Fewest", track.Fewest, 300)
	// Of several lists the one that is less.
	l, e := track.Fewest(walk([]int{0}, []int{1, 0, 5}, []int{2, 0, 5}, []int{3, 0, 5}, []int{4}), 3)
	want(t, "three alike", told(l, e), "[0 1 4] 0")
	randoms(9, 40, func(r *rand.Rand, a api.Activity) {
		most := r.Intn(1 + r.Intn(40))
		l, e := track.Fewest(a, most)
		want(t, fmt.Sprint("Fewest ", most, " of ", a.Samples), told(l, e), told(slowFewest(a.Samples, most), api.OK))
	})
}

func TestC9Resample(t *testing.T) {
	a := walk([]int{0, 0, 0, 0}, []int{10, 30, 40, 12}, []int{20, 60, 0, 2})
	a.Laps, a.Tags = []api.Lap{{From: 3, To: 20, Name: "x"}}, []string{"t"}
	for step, s := range map[int]string{
		8:       "{walk 4 1000 [{0 0 0 0 -1 -1 -1} {8 24 32 10 -1 -1 -1} {16 48 16 6 -1 -1 -1} {20 60 0 2 -1 -1 -1}] [{3 20 x}] [t]} 0",
		10:      "{walk 4 1000 [{0 0 0 0 -1 -1 -1} {10 30 40 12 -1 -1 -1} {20 60 0 2 -1 -1 -1}] [{3 20 x}] [t]} 0",
		20:      "{walk 4 1000 [{0 0 0 0 -1 -1 -1} {20 60 0 2 -1 -1 -1}] [{3 20 x}] [t]} 0",
		1000000: "{walk 4 1000 [{0 0 0 0 -1 -1 -1} {20 60 0 2 -1 -1 -1}] [{3 20 x}] [t]} 0",
	} {
		b, e := track.Resample(a, step)
		want(t, fmt.Sprint("Resample ", step), told(b, e), s)
	}
	b, e := track.Resample(walk([]int{0, 1, 2, 3}), 5)
	want(t, "one sample", told(b, e), "{walk 4 1000 [{0 1 2 3 -1 -1 -1}] [] []} 0")
	none := walk()
	none.Tags = a.Tags
	b, e = track.Resample(none, 5)
	want(t, "without samples", told(b, e), "{walk 4 1000 [] [] [t]} 0")
	_, e = track.Resample(none, 0)
	want(t, "without samples, and a wrong step", told(e), "9")
	runRanges(t, []rangeCase{{"Resample", 1, 1000000, func(n int) api.Errno { _, e := track.Resample(full(), n); return e }}})
	for _, c := range []struct {
		span, step int
		want       string
	}{{19999, 1, "20000 0"}, {20000, 1, "0 3"}, {39998, 2, "20000 0"}, {39999, 2, "0 3"}, {39997, 2, "20000 0"}, {1000000, 50, "0 3"}, {999950, 50, "20000 0"}, {1000000, 51, "19609 0"}} {
		b, e := track.Resample(walk([]int{0}, []int{c.span, 7}), c.step)
		want(t, fmt.Sprint("Resample ", c.step, " of ", c.span), told(len(b.Samples), e), c.want)
		want(t, "Check", told(record.Check(b) == api.OK, e), told(e == api.OK, e))
	}
	randoms(15, 100, func(r *rand.Rand, a api.Activity) {
		step := 1 + r.Intn(9)
		b, e := track.Resample(a, step)
		c := a
		c.Samples = nil
		for second := range record.Span(a) + 1 {
			if len(a.Samples) > 0 && (second%step == 0 || second == record.Span(a)) {
				c.Samples = append(c.Samples, slowAt(a, second))
			}
		}
		want(t, fmt.Sprint("Resample ", step, " of ", a), told(b, e), told(c, api.OK))
	})
}
