package quant_test

import (
	"math"
	"slices"
	"strconv"
	"strings"
	"testing"

	"harrier/api"
	"harrier/quant"
)

func spans(l ...int) []api.Span {
	var r []api.Span
	for i := 0; i < len(l); i += 2 {
		r = append(r, api.Span{From: l[i], To: l[i+1]})
	}
	return r
}

// every has n spans, each so long, from first on, one for each step.
func every(n, first, long, step int) []api.Span {
	var l []api.Span
	for i := range n {
		l = append(l, api.Span{From: first + i*step, To: first + i*step + long - 1})
	}
	return l
}

// setOf has the numbers of the bits.
func setOf(bits int) []api.Span {
	var l []api.Span
	for n := range 64 {
		if bits>>n&1 == 0 {
			continue
		}
		if len(l) > 0 && l[len(l)-1].To == n-1 {
			l[len(l)-1].To = n
		} else {
			l = append(l, api.Span{From: n, To: n})
		}
	}
	return l
}

func TestA8Names(t *testing.T) {
	for c := range 256 {
		b := byte(c)
		good := b >= 'a' && b <= 'z' || b >= 'A' && b <= 'Z' || b >= '0' && b <= '9' || strings.IndexByte("-_.", b) >= 0
		for _, s := range []string{string([]byte{b}), "a" + string([]byte{b}), string([]byte{b}) + "a"} {
			if quant.IsName(s) != good {
				t.Errorf("IsName %q: not %v", s, good)
			}
		}
	}
	for n, good := range map[int]bool{0: false, 1: true, api.MaxName: true, api.MaxName + 1: false, 5000: false} {
		if quant.IsName(strings.Repeat("x", n)) != good {
			t.Errorf("IsName of %d bytes: not %v", n, good)
		}
	}
}

func TestA9CheckSpans(t *testing.T) {
	for _, c := range []struct {
		name string
		l    []api.Span
		want api.Errno
	}{
		{"none", nil, api.OK}, {"empty", []api.Span{}, api.OK}, {"0", spans(0, 0), api.OK}, {"all", spans(0, quant.MaxTotal), api.OK}, {"two", spans(0, 1, 3, 3), api.OK}, {"1000", every(1000, 0, 1, 2), api.OK},
		{"1001", every(1001, -5, 1, 2), api.ErrSize}, {"From below", spans(-1, 1), api.ErrRange}, {"To above", spans(0, quant.MaxTotal+1), api.ErrRange}, {"To below", spans(1, -1), api.ErrRange}, {"From above", spans(quant.MaxTotal+1, 1), api.ErrRange},
		{"back", spans(2, 1), api.ErrOrder}, {"overlap", spans(0, 5, 5, 9), api.ErrOrder}, {"next", spans(1, 2, 3, 4), api.ErrOrder}, {"before", spans(5, 6, 1, 2), api.ErrOrder},
		{"range first", spans(5, 6, 1, math.MinInt), api.ErrRange}, {"earlier first", spans(2, 1, -1, -1), api.ErrOrder}, {"extreme", spans(math.MaxInt, math.MaxInt), api.ErrRange},
	} {
		want(t, "CheckSpans of "+c.name, told(quant.CheckSpans(c.l)), told(c.want))
	}
}

func TestA9WrongSets(t *testing.T) {
	order, ranges := spans(2, 1), spans(-1, 0)
	for name, f := range map[string]func(a, b []api.Span) ([]api.Span, api.Errno){"Union": quant.Union, "Common": quant.Common, "Without": quant.Without} {
		l, e := f(order, ranges)
		want(t, name, told(l, e), "[] 10")
		l, e = f(ranges, order)
		want(t, name, told(l, e), "[] 9")
		l, e = f(spans(1, 2), order)
		want(t, name, told(l, e), "[] 10")
		l, e = f(every(1001, 0, 1, 2), order)
		want(t, name, told(l, e), "[] 3")
	}
	has, e := quant.Has(order, 1)
	want(t, "Has", told(has, e), "false 10")
	n, e := quant.Size(order)
	want(t, "Size", told(n, e), "0 10")
	s, e := quant.SpansText(order)
	want(t, "SpansText", told(s, e), " 10")
}

func TestA9AllSmallSets(t *testing.T) {
	const most = 1 << 7
	check := func(name string, l []api.Span, e api.Errno, bits int) {
		if e != api.OK || !slices.Equal(l, setOf(bits)) {
			t.Errorf("%s: got %v %d, want %v", name, l, e, setOf(bits))
		}
	}
	for a := range most {
		for b := range most {
			x, y := setOf(a), setOf(b)
			l, e := quant.Union(x, y)
			check(told("Union", x, y), l, e, a|b)
			l, e = quant.Common(x, y)
			check(told("Common", x, y), l, e, a&b)
			l, e = quant.Without(x, y)
			check(told("Without", x, y), l, e, a&^b)
			check(told("first"), x, api.OK, a)
			check(told("second"), y, api.OK, b)
		}
		l := setOf(a)
		size := 0
		for n := range 8 {
			size += a >> n & 1
			has, e := quant.Has(l, n)
			want(t, told("Has", l, n), told(has, e), told(a>>n&1 == 1, 0))
		}
		n, e := quant.Size(l)
		want(t, told("Size", l), told(n, e), told(size, 0))
		s, e := quant.SpansText(l)
		back, at, f := quant.ReadSpans(s)
		want(t, s, told(e, back, at, f), told(0, l, 0, 0))
	}
}

func TestA9Edges(t *testing.T) {
	all := spans(0, quant.MaxTotal)
	n, e := quant.Size(all)
	want(t, "Size of all", told(n, e), "1000000000001 0")
	for number, s := range map[int]string{0: "true 0", quant.MaxTotal: "true 0", -1: "false 0", quant.MaxTotal + 1: "false 0", math.MaxInt: "false 0", math.MinInt: "false 0"} {
		has, e := quant.Has(all, number)
		want(t, told("Has", number), told(has, e), s)
	}
	l, e := quant.Without(all, spans(0, 0, quant.MaxTotal, quant.MaxTotal))
	want(t, "Without the ends", told(l, e), "[{1 999999999999}] 0")
	l, e = quant.Without(all, all)
	want(t, "Without all", told(l, e), "[] 0")
	l, e = quant.Union(spans(1, 3), spans(4, 6))
	want(t, "Union", told(l, e), "[{1 6}] 0")
	s, e := quant.SpansText(spans(0, 0, 5, 9, 20, quant.MaxTotal))
	want(t, "SpansText", told(s, e), "0,5-9,20-1000000000000 0")
	s, e = quant.SpansText(nil)
	want(t, "SpansText of none", told(s, e), " 0")
}

func TestA9TooManySpans(t *testing.T) {
	thousand := every(1000, 0, 1, 2)
	for _, c := range []struct {
		name string
		f    func(a, b []api.Span) ([]api.Span, api.Errno)
		a, b []api.Span
		want string
	}{
		{"Union of 1000", quant.Union, thousand, spans(1998, 1999), "1000 0"},
		{"Union of 1001", quant.Union, thousand, spans(3000, 3000), "0 3"},
		{"Union of one", quant.Union, thousand, every(1000, 1, 1, 2), "1 0"},
		{"Common of 1000", quant.Common, thousand, spans(0, quant.MaxTotal), "1000 0"},
		{"Common of more", quant.Common, every(600, 0, 3, 4), every(600, 2, 3, 4), "0 3"},
		{"Without, 1000", quant.Without, spans(0, quant.MaxTotal), every(999, 1, 1, 2), "1000 0"},
		{"Without, 1001", quant.Without, spans(0, quant.MaxTotal), every(1000, 1, 1, 2), "0 3"},
	} {
		l, e := c.f(c.a, c.b)
		want(t, c.name, told(len(l), e), c.want)
	}
	s, e := quant.SpansText(every(1000, quant.MaxTotal-2999, 2, 3))
	want(t, "a long text", told(len(s), e), told(1000*len("999999997001-999999997002,")-1, 0))
}

func TestA9ReadSpans(t *testing.T) {
	for _, c := range [][2]string{
		{"", "[] 0 0"}, {"5", "[{5 5}] 0 0"}, {"5-5", "[{5 5}] 0 0"}, {"5-9", "[{5 9}] 0 0"}, {"7-8,3,4-5,8", "[{3 5} {7 8}] 0 0"}, {"1-9,2-3", "[{1 9}] 0 0"}, {"2-3,1-9,1", "[{1 9}] 0 0"}, {"0,1000000000000", "[{0 0} {1000000000000 1000000000000}] 0 0"},
		{"5-,3", "[] 2 6"}, {"5,", "[] 2 6"}, {",5", "[] 0 6"}, {"5-3-1", "[] 3 6"}, {"05", "[] 1 6"}, {"5-03", "[] 3 6"}, {"5, 6", "[] 2 6"}, {"12345678901234", "[] 13 6"}, {"10000000000000", "[] 13 6"}, {"9999999999999", "[] 0 9"}, {"1-12345678901234", "[] 15 6"}, {"-5", "[] 0 6"}, {"5 ", "[] 1 6"},
		{"1000000000001", "[] 0 9"}, {"3-2,1000000000001", "[] 0 9"}, {"9999999999999-1", "[] 0 9"}, {"1-9999999999999", "[] 0 9"}, {"5-3", "[] 0 10"}, {"1,5-3,7", "[] 0 10"}, {"1000000000001,x", "[] 14 6"},
	} {
		l, at, e := quant.ReadSpans(c[0])
		want(t, c[0], told(l, at, e), c[1])
	}
}

func TestA9ReadManySpans(t *testing.T) {
	text := func(n, step int) string {
		var l []string
		for i := range n {
			l = append(l, strconv.Itoa((n-i)*step))
		}
		return strings.Join(l, ",")
	}
	for _, c := range []struct{ name, s, want string }{
		{"1000", text(1000, 2), "1000 0 0"}, {"1001", text(1001, 2), "0 0 3"}, {"5000 in a row", text(5000, 1), "1 0 0"}, {"the order before the size", text(1001, 2) + ",3-2", "0 0 10"},
		{"40,000 bytes", strings.Repeat("7,", 19_998) + "1000", "2 0 0"}, {"40,001 bytes", strings.Repeat("7,", 20_000) + "7", "0 0 3"}, {"40,000 bytes, wrong", strings.Repeat("7,", 20_000), "0 40000 6"},
	} {
		l, at, e := quant.ReadSpans(c.s)
		want(t, c.name, told(len(l), at, e), c.want)
	}
}

// TestA9OwnMemory changes results, and asks whether arguments are as they were.
func TestA9OwnMemory(t *testing.T) {
	a := make([]api.Span, 1, 10)
	a[0] = api.Span{From: 1, To: 5}
	for _, f := range []func(a, b []api.Span) ([]api.Span, api.Errno){quant.Union, quant.Common, quant.Without} {
		for _, b := range [][]api.Span{nil, spans(0, 9), spans(7, 9)} {
			if l, _ := f(a, b); len(l) > 0 {
				l[0].From = 99
			}
			if l, _ := f(b, a); len(l) > 0 {
				l[0].From = 99
			}
		}
	}
	want(t, "the argument", told(a, a[:2]), "[{1 5}] [{1 5} {0 0}]")
}

// TestA8NameBytes asks for all bytes.
func TestA8NameBytes(t *testing.T) {
	const upper, lower, digits = "ABCDEFGHIJKLMNOPQRSTUVWXYZ", "abcdefghijklmnopqrstuvwxyz", "0123456789"
	for n := range 256 {
		c := byte(n)
		in := func(s string) bool { return strings.IndexByte(s, c) >= 0 }
		want(t, told("the byte", n), told(quant.IsLetter(c), quant.IsDigit(c), quant.IsNameByte(c), quant.IsName(string([]byte{c}))), told(in(upper+lower), in(digits), in(upper+lower+digits+"-_."), in(upper+lower+digits+"-_.")))
	}
}
