package quant_test

import (
	"fmt"
	"math"
	"math/big"
	"math/rand"
	"slices"
	"strings"
	"testing"

	"harrier/api"
	"harrier/quant"
)

// told writes results with spaces between; codes of errors as numbers.
func told(l ...any) string {
	for i, x := range l {
		if e, ok := x.(api.Errno); ok {
			l[i] = int(e)
		}
	}
	return strings.TrimSuffix(fmt.Sprintln(l...), "\n")
}

func want(t *testing.T, what, got, wanted string) {
	t.Helper()
	if got != wanted {
		t.Errorf("%s: got %q, want %q", what, got, wanted)
	}
}

// rounded is an exact quotient, by the words of the document.
func rounded(x *big.Rat, how int) *big.Int {
	below := new(big.Int).Div(x.Num(), x.Denom())
	if x.IsInt() {
		return below
	}
	above := new(big.Int).Add(below, big.NewInt(1))
	half := new(big.Rat).Sub(x, new(big.Rat).SetInt(below)).Cmp(big.NewRat(1, 2))
	switch {
	case how == quant.Up, how == quant.Zero && x.Sign() < 0, how >= quant.Near && half > 0:
		return above
	case how == quant.Near && half == 0, how == quant.Even && half == 0 && below.Bit(0) == 1:
		return above
	}
	return below
}

// scaled is Scale by the words of the document.
func scaled(a, num, den, how int) (int, api.Errno) {
	if how < 1 || how > 5 {
		return 0, api.ErrKind
	}
	if den <= 0 || num < 0 {
		return 0, api.ErrArg
	}
	x := new(big.Rat).Mul(new(big.Rat).SetInt64(int64(a)), new(big.Rat).SetInt64(int64(num)))
	n := rounded(x.Quo(x, new(big.Rat).SetInt64(int64(den))), how)
	if n.CmpAbs(new(big.Int).Lsh(big.NewInt(1), 62)) > 0 {
		return 0, api.ErrRange
	}
	return int(n.Int64()), api.OK
}

func checkScale(t *testing.T, a, num, den, how int) {
	t.Helper()
	n, e := quant.Scale(a, num, den, how)
	m, f := scaled(a, num, den, how)
	want(t, told("Scale", a, num, den, how), told(n, e), told(m, f))
}

func checkDiv(t *testing.T, a, b, how int) {
	t.Helper()
	n, e := quant.Div(a, b, how)
	m, f := scaled(a, 1, b, how)
	want(t, told("Div", a, b, how), told(n, e), told(m, f))
}

func TestA1DivSmall(t *testing.T) {
	for a := -25; a <= 25; a++ {
		for b := -1; b <= 9; b++ {
			for how := -1; how <= 7; how++ {
				checkDiv(t, a, b, how)
			}
		}
	}
}

func TestA1ScaleEdges(t *testing.T) {
	edges := []int{math.MinInt, math.MinInt + 1, -1<<62 - 1, -1 << 62, -1<<62 + 1, -3, -1, 0, 1, 2, 3, 7,
		1<<31 - 1, 1 << 31, 1<<32 + 1, 1<<61 + 1, 1<<62 - 1, 1 << 62, 1<<62 + 1, math.MaxInt - 1, math.MaxInt}
	for _, a := range edges {
		for _, num := range edges {
			for _, den := range edges {
				for how := 0; how <= 6; how++ {
					checkScale(t, a, num, den, how)
				}
			}
			checkDiv(t, a, num, quant.Even)
		}
	}
	for _, how := range []int{math.MinInt, 0, 6, math.MaxInt} {
		n, e := quant.Scale(1, -1, 0, how)
		want(t, "the kind before the arguments", told(n, e), "0 7")
	}
}

func TestA1ScaleMany(t *testing.T) {
	r := rand.New(rand.NewSource(1))
	for range 20000 {
		a := int(r.Uint64()) >> r.Intn(64)
		num, den := int(r.Uint64()>>(1+r.Intn(63))), int(r.Uint64()>>(1+r.Intn(63)))
		checkScale(t, a, num, den, 1+r.Intn(5))
		checkScale(t, 2*r.Intn(100)+1, 1+2*r.Intn(9), 2, 4+r.Intn(2))
	}
}

func TestA1Root(t *testing.T) {
	for root := range 2000 {
		for n := root * root; n < (root+1)*(root+1); n += 1 + root/3 {
			got, e := quant.Root(n)
			want(t, told("Root", n), told(got, e), told(root, 0))
		}
	}
	for _, root := range []int{1<<16 - 1, 1 << 16, 1<<31 - 1, 1 << 31, 3037000498, 3037000499} {
		got, e := quant.Root(root * root)
		want(t, told("Root of the square of", root), told(got, e), told(root, 0))
		got, e = quant.Root(root*root - 1)
		want(t, told("Root below the square of", root), told(got, e), told(root-1, 0))
	}
	for n, s := range map[int]string{math.MaxInt: "3037000499 0", -1: "0 1", math.MinInt: "0 1"} {
		got, e := quant.Root(n)
		want(t, told("Root", n), told(got, e), s)
	}
}

func TestA1Share(t *testing.T) {
	many := slices.Repeat([]int{1}, quant.MaxShares+1)
	for _, c := range []struct {
		total   int
		weights []int
		want    string
	}{
		{10, []int{1, 1, 1}, "[4 3 3] 0"},
		{11, []int{1, 1, 1}, "[4 4 3] 0"},
		{1, []int{0, 1, 1}, "[0 1 0] 0"},
		{3, []int{1, 2, 1, 0}, "[1 1 1 0] 0"},
		{5, []int{1, 3, 3}, "[1 2 2] 0"},
		{0, []int{5, 0}, "[0 0] 0"},
		{quant.MaxTotal, []int{quant.MaxWeight}, "[1000000000000] 0"},
		{quant.MaxTotal, []int{quant.MaxWeight, 1}, "[999999000001 999999] 0"},
		{-1, many, "[] 9"},
		{quant.MaxTotal + 1, many, "[] 9"},
		{1, append(slices.Clone(many), -1), "[] 3"},
		{1, []int{0, -1}, "[] 9"},
		{1, []int{quant.MaxWeight + 1}, "[] 9"},
		{1, []int{0, 0}, "[] 13"},
		{1, nil, "[] 13"},
	} {
		l, e := quant.Share(c.total, c.weights)
		want(t, told("Share", c.total, len(c.weights)), told(l, e), c.want)
	}
	l, e := quant.Share(quant.MaxTotal, slices.Repeat([]int{quant.MaxWeight}, quant.MaxShares))
	want(t, "the most", told(len(l), l[0], l[999], e), "1000 1000000000 1000000000 0")
}

// shared gives out what is left one by one, each time to the part that has waited for most.
func shared(total int, weights []int) []int {
	sum := 0
	for _, w := range weights {
		sum += w
	}
	parts, rests, left := make([]int, len(weights)), make([]int, len(weights)), total
	for i, w := range weights {
		parts[i], rests[i] = total*w/sum, total*w%sum
		left -= parts[i]
	}
	for ; left > 0; left-- {
		best := slices.Index(rests, slices.Max(rests))
		parts[best]++
		rests[best] = -1
	}
	return parts
}

func TestA1ShareMany(t *testing.T) {
	r := rand.New(rand.NewSource(2))
	for range 3000 {
		weights := make([]int, 1+r.Intn(30))
		for i := range weights {
			weights[i] = r.Intn(1 + r.Intn(20))
		}
		weights[r.Intn(len(weights))] = 1 + r.Intn(5)
		total := r.Intn(1 + r.Intn(quant.MaxTotal>>r.Intn(40)))
		kept := slices.Clone(weights)
		l, e := quant.Share(total, weights)
		want(t, told("Share", total, kept), told(l, e), told(shared(total, kept), 0))
		l[0]++
		want(t, "the weights", told(weights), told(kept))
	}
}

// TestA1Shares has more and greater weights than Share permits, and a sum that it does not.
func TestA1Shares(t *testing.T) {
	r := rand.New(rand.NewSource(3))
	for range 20 {
		weights := make([]int, 3*quant.MaxShares)
		for i := range weights {
			weights[i] = r.Intn(2 * quant.MaxWeight)
		}
		total := r.Intn(1_000_000_000)
		want(t, told("Shares", total), told(quant.Shares(total, weights)), told(shared(total, weights)))
	}
	want(t, "one weight", told(quant.Shares(7, []int{3})), "[7]")
}
