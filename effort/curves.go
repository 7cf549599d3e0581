package effort

import (
	"cmp"
	"slices"

	"harrier/api"
)

// inOrder returns a list put in order by rising keys; elements with equal keys stay as they stand. It takes the list over.
func inOrder[T any, K cmp.Ordered](l []T, key func(T) K) []T {
	slices.SortStableFunc(l, func(x, y T) int { return cmp.Compare(key(x), key(y)) })
	return l
}

func sizeOf(x api.Best) int { return x.Size }

func sizesOf(c []api.Best) []int {
	sizes := make([]int, len(c))
	for i, x := range c {
		sizes[i] = sizeOf(x)
	}
	return sizes
}

// isBetter reports whether x is better than y, a window of the same size; one that is not found is worse than any that is.
func isBetter(x, y api.Best) bool {
	return x.Found && (!y.Found || x.Sum > y.Sum)
}

func checkBoth(a, b []api.Best) api.Errno {
	if e := CheckCurve(a); e != api.OK {
		return e
	}
	return CheckCurve(b)
}

// Merge returns the better ones of two curves.
func Merge(a, b []api.Best) ([]api.Best, api.Errno) {
	if e := checkBoth(a, b); e != api.OK {
		return nil, e
	}
	var merged []api.Best
	// Of a size that both have, that of a comes first: that of b replaces it only if it is better.
	for _, x := range inOrder(slices.Concat(a, b), sizeOf) {
		last := len(merged) - 1
		if last < 0 || merged[last].Size != x.Size {
			merged = append(merged, x)
		} else if isBetter(x, merged[last]) {
			merged[last] = x
		}
	}
	if len(merged) > MaxSizes {
		return nil, api.ErrSize
	}
	return merged, api.OK
}

// Beats returns the sizes at which a is better than b.
func Beats(a, b []api.Best) ([]int, api.Errno) {
	if e := checkBoth(a, b); e != api.OK {
		return nil, e
	}
	var sizes []int
	for _, x := range a {
		if isBetter(x, bestOf(b, x.Size)) {
			sizes = append(sizes, x.Size)
		}
	}
	return sizes, api.OK
}

// bestOf returns what a curve has of a size; one that is not found, if it has no such size.
func bestOf(c []api.Best, size int) api.Best {
	for _, x := range c {
		if x.Size == size {
			return x
		}
	}
	return api.Best{Size: size}
}
