package effort

import (
	"iter"
	"sort"

	"harrier/api"
)

const (
	hardSize = 30    // seconds of the windows of Hard
	maxHard  = 10000 // the greatest number of a stream of Hard: sums of cubes stay below 2^62
)

// windows yields the known windows of so many seconds: the number of the first second, and the sum.
func windows(l []int, size int) iter.Seq2[int, int] {
	return func(yield func(at, sum int) bool) {
		known, sum := 0, 0
		for i, n := range l {
			if n < 0 {
				known, sum = 0, 0
				continue
			}
			known, sum = known+1, sum+n
			if known > size {
				known, sum = size, sum-l[i-size]
			}
			if known == size && !yield(i+1-size, sum) {
				return
			}
		}
	}
}

func checkWindow(l []int, size int) api.Errno {
	if e := CheckStream(l); e != api.OK {
		return e
	}
	if !within(size, 1, MaxStream) {
		return api.ErrRange
	}
	return api.OK
}

// Best returns the known window of a size that has the greatest sum.
func Best(l []int, size int) (api.Best, api.Errno) {
	if e := checkWindow(l, size); e != api.OK {
		return api.Best{}, e
	}
	return best(l, size), api.OK
}

func best(l []int, size int) api.Best {
	most := api.Best{Size: size}
	for at, sum := range windows(l, size) {
		if x := (api.Best{Size: size, Sum: sum, At: at, Found: true}); isBetter(x, most) {
			most = x
		}
	}
	return most
}

// Curve returns the best windows of some sizes.
func Curve(l []int, sizes []int) ([]api.Best, api.Errno) {
	if e := CheckStream(l); e != api.OK {
		return nil, e
	}
	if e := CheckSizes(sizes); e != api.OK {
		return nil, e
	}
	var curve []api.Best
	for _, size := range sizes {
		curve = append(curve, best(l, size))
	}
	return curve, api.OK
}

// Least returns the shortest known window that has at least a sum.
func Least(l []int, sum int) (from, to int, ok bool, e api.Errno) {
	if e := CheckStream(l); e != api.OK {
		return 0, 0, false, e
	}
	if !within(sum, 1, MaxStream*MaxValue) {
		return 0, 0, false, api.ErrRange
	}
	first, have := 0, 0
	for i, n := range l {
		if n < 0 {
			first, have = i+1, 0
			continue
		}
		have += n
		// A second that is not needed here is not needed by a later window either, as no known number is below 0.
		for have-l[first] >= sum {
			have -= l[first]
			first++
		}
		if have >= sum && (!ok || i+1-first < to-from) {
			from, to, ok = first, i+1, true
		}
	}
	return from, to, ok, api.OK
}

// Smooth returns for each second the mean of the window of a size that ends with it, -1 if it is not known.
func Smooth(l []int, size int) ([]int, api.Errno) {
	if e := checkWindow(l, size); e != api.OK {
		return nil, e
	}
	means := make([]int, len(l))
	for i := range means {
		means[i] = -1
	}
	for at, sum := range windows(l, size) {
		means[at+size-1] = sum / size
	}
	return means, api.OK
}

// Hard returns how hard a stream is, if it has a known window of half a minute.
func Hard(l []int) (int, bool, api.Errno) {
	if e := CheckStream(l); e != api.OK {
		return 0, false, e
	}
	if e := checkEach(l, -1, maxHard); e != api.OK {
		return 0, false, e
	}
	many, cubes := 0, 0
	for _, sum := range windows(l, hardSize) {
		many, cubes = many+1, cubes+cube(sum/hardSize)
	}
	if many == 0 {
		return 0, false, api.OK
	}
	return cubeRoot(cubes / many), true, api.OK
}

func cube(n int) int { return n * n * n }

// cubeRoot returns the greatest number up to maxHard whose cube is not greater than n.
func cubeRoot(n int) int {
	return sort.Search(maxHard, func(root int) bool { return cube(root+1) > n })
}
