package load_test

import (
	"fmt"
	"math/big"
	"math/rand"
	"slices"
	"testing"

	"harrier/api"
	"harrier/effort"
	"harrier/load"
)

// someStream makes a stream of so many numbers up to most, some of them unknown.
func someStream(r *rand.Rand, many, most int) []int {
	l, unknown := make([]int, many), 2+r.Intn(200)
	for i := range l {
		l[i] = r.Intn(most + 1)
		if r.Intn(unknown) == 0 {
			l[i] = -1
		}
	}
	return l
}

func TestF2Power(t *testing.T) {
	for _, c := range []struct {
		what      string
		l         []int
		threshold int
		want      string
	}{
		{"an hour at the threshold", same(3600, 200), 200, "100 true 0"},
		{"an hour at half of it", same(3600, 100), 200, "25 true 0"},
		{"nearly an hour", same(3599, 200), 200, "99 true 0"},
		{"with unknown ones", append(same(3600, 200), same(3600, -1)...), 200, "100 true 0"},
		{"known ones in no window count", slices.Concat(same(1800, 200), []int{-1}, same(29, 0), []int{-1}, same(1771, 200)), 200, "100 true 0"},
		{"nothing but zeroes", same(60, 0), 200, "0 true 0"},
		{"little", same(30, 1), 10000, "0 true 0"},
		{"much", same(effort.MaxStream, 10000), 1, "2777777777777 true 0"},
		{"no numbers", nil, 200, "0 false 0"}, {"too short", same(29, 200), 200, "0 false 0"}, {"long enough", same(30, 600), 200, "7 true 0"},
		{"no window", append(append(same(29, 200), -1), same(29, 200)...), 200, "0 false 0"}, {"nothing known", same(99, -1), 200, "0 false 0"},
		{"no window, and no threshold", nil, 0, "0 false 9"},
		{"below what a stream has", same(30, -2), 200, "0 false 9"}, {"too great", append(same(30, 5), 10001), 200, "0 false 9"},
	} {
		n, ok, e := load.Power(c.l, c.threshold)
		want(t, c.what, told(n, ok, e), c.want)
	}
	runRanges(t, []rangeCase{
		{"threshold", 1, 10000, func(n int) api.Errno { _, _, e := load.Power(same(30, 5), n); return e }},
		{"threshold without a window", 1, 10000, func(n int) api.Errno { _, _, e := load.Power(nil, n); return e }},
		{"a number", -1, 10000, func(n int) api.Errno { _, _, e := load.Power([]int{5, n}, 5); return e }},
	})
}

func TestF2ExactPower(t *testing.T) {
	r := rand.New(rand.NewSource(2))
	for range 500 {
		l, threshold := someStream(r, r.Intn(300), 1+r.Intn(10000)), 1+r.Intn(10000)
		hard, wanted, e := effort.Hard(l)
		sum := number(0)
		for _, n := range l {
			if n != -1 {
				sum = plus(sum, number(hard*hard))
			}
		}
		load1, ok, e1 := load.Power(l, threshold)
		want(t, fmt.Sprint("Power ", l, threshold), told(load1, ok, e1), told(floored(times(sum, number(100)), number(3600*threshold*threshold)), wanted, e))
	}
}

func TestF2Pulse(t *testing.T) {
	l := []int{1, 5, 2, -1, 9}
	for _, c := range []struct {
		l, zones, weights []int
		want              string
	}{
		{l, []int{2, 6}, []int{60, 30, 120}, "4 0"}, {l, []int{2, 6}, []int{0, 30, 0}, "1 0"}, {l, []int{2, 6}, []int{0, 29, 0}, "0 0"}, {l, []int{2, 6}, []int{59, 0, 0}, "0 0"},
		// All zones are divided together.
		{l, []int{2, 6}, []int{40, 20, 40}, "2 0"}, {l, []int{2, 6}, []int{40, 20, 39}, "1 0"},
		{l, nil, []int{15}, "1 0"}, {l, nil, []int{14}, "0 0"}, {nil, nil, []int{1000}, "0 0"}, {same(99, -1), nil, []int{1000}, "0 0"},
		{same(effort.MaxStream, 5), []int{5}, []int{0, 1000}, "16666666 0"}, {same(60, 20), rising(1, 20), append(make([]int, 20), 7), "7 0"},
		{l, []int{2, 6}, []int{1, 1}, "0 2"}, {l, []int{2, 6}, []int{1, 1, 1, 1}, "0 2"}, {l, nil, nil, "0 2"}, {l, []int{2, 6}, []int{-1, 1}, "0 2"},
		{l, []int{2, 6}, []int{1, -1, 1}, "0 9"}, {l, []int{2, 6}, []int{1, 1, 1001}, "0 9"}, {nil, nil, []int{1001}, "0 9"},
		{l, []int{2, 2}, nil, "0 10"}, {l, []int{-1}, nil, "0 9"}, {[]int{-2}, []int{2, 2}, nil, "0 9"}, {l, rising(1, 21), make([]int, 22), "0 3"},
	} {
		n, e := load.Pulse(c.l, c.zones, c.weights)
		want(t, fmt.Sprint("Pulse ", c.zones, c.weights), told(n, e), c.want)
	}
	runRanges(t, []rangeCase{{"weight", 0, 1000, func(n int) api.Errno { _, e := load.Pulse(l, []int{3}, []int{5, n}); return e }}})
}

// TestF2EachSecond compares Pulse with the weights of the seconds.
func TestF2EachSecond(t *testing.T) {
	r := rand.New(rand.NewSource(3))
	for range 500 {
		l := someStream(r, r.Intn(300), 30)
		var zones []int
		for next := r.Intn(9); next < 35 && r.Intn(9) > 0; next += 1 + r.Intn(9) {
			zones = append(zones, next)
		}
		weights, sum := make([]int, len(zones)+1), 0
		for i := range weights {
			weights[i] = r.Intn(1001)
		}
		for _, n := range l {
			zone := 0
			for _, limit := range zones {
				if n >= limit {
					zone++
				}
			}
			if n != -1 {
				sum += weights[zone]
			}
		}
		n, e := load.Pulse(l, zones, weights)
		want(t, fmt.Sprint("Pulse ", l, zones, weights), told(n, e), told(sum/60, 0))
	}
}

func TestF4Balance(t *testing.T) {
	for _, c := range []struct {
		what        string
		l           []int
		power, work int
		want        string
	}{
		{"the example", []int{300, 100}, 200, 1000, "[900 910] 0"},
		{"nothing", nil, 200, 1000, "[] 0"},
		{"full at first, and not above it", []int{0, -1, 100}, 200, 1000, "[1000 1000 1000] 0"},
		{"just the power", []int{201, 200, 199}, 200, 1000, "[999 999 999] 0"},
		{"growth is rounded down", []int{260, 190, 180, 183}, 200, 1000, "[940 940 941 942] 0"},
		{"an unknown one is a 0", []int{700, -1, 700, 0}, 200, 1000, "[500 600 100 280] 0"},
		{"below 0, and back", []int{700, 700, 700, 0, 0, 0}, 200, 1000, "[500 0 -500 -200 40 232] 0"},
		{"not above work in one second", []int{100, 50}, 60, 9, "[-31 9] 0"},
		{"not above a little work", []int{10, 0}, 9, 3, "[2 3] 0"},
		{"far below 0, and full at once", []int{10000, 0}, 5000, 1, "[-4999 1] 0"},
		{"the least of all", []int{10000, -1}, 1, 1, "[-9998 1] 0"},
		{"the greatest of all", []int{9999, 10000, 0}, 10000, 1000000, "[1000000 1000000 1000000] 0"},
		{"too great", []int{5, 10001}, 200, 1000, "[] 9"}, {"below what a stream has", []int{5, -2}, 200, 1000, "[] 9"},
	} {
		l, e := load.Balance(c.l, c.power, c.work)
		want(t, c.what, told(l, e), c.want)
	}
}

func TestF4Errors(t *testing.T) {
	l := []int{50, 5}
	runRanges(t, []rangeCase{
		{"Balance, power", 1, 10000, func(n int) api.Errno { _, e := load.Balance(l, n, 5); return e }},
		{"Balance, work", 1, 1000000, func(n int) api.Errno { _, e := load.Balance(l, 5, n); return e }},
		{"Balance, a number", -1, 10000, func(n int) api.Errno { _, e := load.Balance([]int{5, n}, 5, 5); return e }},
		{"Empty, power", 1, 10000, func(n int) api.Errno { _, _, e := load.Empty(l, n, 5); return e }},
		{"Empty, work", 1, 1000000, func(n int) api.Errno { _, _, e := load.Empty(l, 5, n); return e }},
		{"Empty, a number", -1, 10000, func(n int) api.Errno { _, _, e := load.Empty([]int{5, n}, 5, 5); return e }},
		{"Balance without numbers, power", 1, 10000, func(n int) api.Errno { _, e := load.Balance(nil, n, 5); return e }},
		{"Empty without numbers, work", 1, 1000000, func(n int) api.Errno { _, _, e := load.Empty(nil, 5, n); return e }},
	})
	_, e := load.Balance(make([]int, effort.MaxStream), 5, 5)
	want(t, "as long as a stream can be", told(e), "0")
}

// exactBalance tells what is left behind each second, in numbers without a limit.
func exactBalance(l []int, power, work int) []*big.Int {
	list, left := []*big.Int{}, number(work)
	for _, n := range l {
		if n > power {
			left = minus(left, number(n-power))
		} else {
			if n == -1 {
				n = 0
			}
			left = plus(left, floored(times(number(power-n), minus(number(work), left)), number(work)))
			if left.Cmp(number(work)) > 0 {
				left = number(work)
			}
		}
		list = append(list, left)
	}
	return list
}

func TestF4ExactBalance(t *testing.T) {
	r := rand.New(rand.NewSource(4))
	for range 500 {
		most := []int{20, 500, 10000}[r.Intn(3)]
		power, work := 1+r.Intn(most), 1+r.Intn([]int{50, 20000, 1000000}[r.Intn(3)])
		l := someStream(r, r.Intn(200), most)
		wanted := exactBalance(l, power, work)
		list, e := load.Balance(l, power, work)
		want(t, fmt.Sprint("Balance ", l, power, work), told(list, e), told(wanted, 0))
		at := slices.IndexFunc(wanted, func(n *big.Int) bool { return n.Sign() < 0 })
		n, ok, e := load.Empty(l, power, work)
		want(t, fmt.Sprint("Empty ", l, power, work), told(n, ok, e), told(max(at, 0), at >= 0, 0))
	}
	long := append(same(effort.MaxStream-5, 10000), 0, -1, 1, 0, 0)
	wanted := exactBalance(long, 1, 1000000)
	list, e := load.Balance(long, 1, 1000000)
	want(t, "a long way below 0", told(list[len(list)-6:], e), told(wanted[len(wanted)-6:], 0))
	wanted = exactBalance(long, 9999, 1000000)
	list, e = load.Balance(long, 9999, 1000000)
	want(t, "a long way below 0, with much power", told(list[len(list)-6:], e), told(wanted[len(wanted)-6:], 0))
}

func TestF4Empty(t *testing.T) {
	for _, c := range []struct {
		l           []int
		power, work int
		want        string
	}{
		{[]int{300, 300}, 200, 150, "1 true 0"}, {[]int{300, 300}, 200, 200, "0 false 0"}, {[]int{300, 301}, 200, 200, "1 true 0"}, {[]int{400, 0, 300}, 200, 150, "0 true 0"},
		{nil, 200, 150, "0 false 0"}, {[]int{-1, -1}, 200, 150, "0 false 0"}, {[]int{0, 900, 0, 900}, 200, 150, "1 true 0"},
	} {
		n, ok, e := load.Empty(c.l, c.power, c.work)
		want(t, fmt.Sprint("Empty ", c.l, c.power, c.work), told(n, ok, e), c.want)
	}
}
