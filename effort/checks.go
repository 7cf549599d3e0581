package effort

import "harrier/api"

// CheckStream returns what is wrong with a list as a stream.
func CheckStream(l []int) api.Errno {
	if len(l) > MaxStream {
		return api.ErrSize
	}
	return checkEach(l, -1, MaxValue)
}

// CheckSizes returns what is wrong with sizes of windows.
func CheckSizes(l []int) api.Errno {
	if len(l) == 0 {
		return api.ErrEmpty
	}
	if len(l) > MaxSizes {
		return api.ErrSize
	}
	return checkRising(l, 1, MaxStream)
}

// CheckZones returns what is wrong with limits of zones.
func CheckZones(l []int) api.Errno {
	if len(l) > MaxZones {
		return api.ErrSize
	}
	return checkRising(l, 0, MaxValue)
}

// CheckCurve returns what is wrong with a list as a curve.
func CheckCurve(c []api.Best) api.Errno {
	if e := CheckSizes(sizesOf(c)); e != api.OK {
		return e
	}
	for _, x := range c {
		if e := checkBest(x); e != api.OK {
			return e
		}
	}
	return api.OK
}

// checkBest returns what is wrong with the best window of a size that is right.
func checkBest(x api.Best) api.Errno {
	if !x.Found && (x.Sum != 0 || x.At != 0) {
		return api.ErrForm
	}
	if !within(x.Sum, 0, x.Size*MaxValue) || !within(x.At, 0, MaxStream-x.Size) {
		return api.ErrRange
	}
	return api.OK
}

func checkEach(l []int, low, high int) api.Errno {
	for _, n := range l {
		if !within(n, low, high) {
			return api.ErrRange
		}
	}
	return api.OK
}

func checkRising(l []int, low, high int) api.Errno {
	for i, n := range l {
		if !within(n, low, high) {
			return api.ErrRange
		}
		if i > 0 && n <= l[i-1] {
			return api.ErrOrder
		}
	}
	return api.OK
}

func within(n, low, high int) bool { return low <= n && n <= high }
