package quant

import (
	"cmp"
	"math/bits"
	"slices"

	"harrier/api"
)

// maxResult is the greatest result of Div and Scale, and -maxResult the least one.
const maxResult = 1 << 62

// A rounding reports whether a quotient becomes the whole number above it: whole is the one below it, rest of den is what it has beyond that.
type rounding func(whole int, rest, den uint64) bool

func roundings() [Even + 1]rounding {
	return [...]rounding{
		Down: func(int, uint64, uint64) bool { return false },
		Up:   func(_ int, rest, _ uint64) bool { return rest > 0 },
		Zero: func(whole int, rest, _ uint64) bool { return rest > 0 && whole < 0 },
		Near: func(_ int, rest, den uint64) bool { return rest >= den-rest },
		Even: func(whole int, rest, den uint64) bool {
			return rest > den-rest || rest == den-rest && whole%2 != 0
		},
	}
}

// Div returns a / b, rounded by how.
func Div(a, b, how int) (int, api.Errno) {
	return Scale(a, 1, b, how)
}

// Scale returns a * num / den, rounded by how; the product may be beyond an int.
func Scale(a, num, den, how int) (int, api.Errno) {
	if how < Down || how > Even {
		return 0, api.ErrKind
	}
	if den <= 0 || num < 0 {
		return 0, api.ErrArg
	}
	whole, rest, ok := quotient(a, uint64(num), uint64(den))
	if !ok {
		return 0, api.ErrRange
	}
	if roundings()[how](whole, rest, uint64(den)) {
		whole++
	}
	if whole < -maxResult || whole > maxResult {
		return 0, api.ErrRange
	}
	return whole, api.OK
}

// quotient returns the greatest whole number not above a * num / den, and how much of den is left over. It is not ok if no rounding of the quotient can be a result.
func quotient(a int, num, den uint64) (whole int, rest uint64, ok bool) {
	size := uint64(a)
	if a < 0 {
		size = -size
	}
	high, low := bits.Mul64(size, num)
	if high >= den {
		return 0, 0, false
	}
	q, r := bits.Div64(high, low, den)
	if q > maxResult {
		return 0, 0, false
	}
	if a >= 0 {
		return int(q), r, true
	}
	if r == 0 {
		return -int(q), 0, true
	}
	return -int(q) - 1, den - r, true
}

// Root returns the greatest whole number whose square is not above n.
func Root(n int) (int, api.Errno) {
	if n < 0 {
		return 0, api.ErrArg
	}
	root := 0
	for bit := 1 << 31; bit > 0; bit >>= 1 {
		// Dividing, as the square could be beyond an int.
		if next := root | bit; next <= n/next {
			root = next
		}
	}
	return root, api.OK
}

// Share divides total into parts that are to each other as the weights.
func Share(total int, weights []int) ([]int, api.Errno) {
	if total < 0 || total > MaxTotal {
		return nil, api.ErrRange
	}
	if len(weights) > MaxShares {
		return nil, api.ErrSize
	}
	sum := 0
	for _, w := range weights {
		if w < 0 || w > MaxWeight {
			return nil, api.ErrRange
		}
		sum += w
	}
	if sum == 0 {
		return nil, api.ErrEmpty
	}
	return Shares(total, weights), api.OK
}

// Shares divides total as Share does, and asks nothing: who calls it knows that no number is below 0, that a weight is above it, and that total times the sum of the weights is not beyond an int.
func Shares(total int, weights []int) []int {
	sum := 0
	for _, w := range weights {
		sum += w
	}
	parts := make([]int, len(weights))
	rests := make([]int, len(weights))
	left := total
	for i, w := range weights {
		parts[i], rests[i] = total*w/sum, total*w%sum
		left -= parts[i]
	}
	for _, i := range greatestFirst(rests)[:left] {
		parts[i]++
	}
	return parts
}

// greatestFirst returns the indexes of l in the order of its numbers, of equal ones the earlier index first.
func greatestFirst(l []int) []int {
	order := make([]int, len(l))
	for i := range order {
		order[i] = i
	}
	slices.SortStableFunc(order, func(i, j int) int { return cmp.Compare(l[j], l[i]) })
	return order
}
