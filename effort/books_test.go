package effort_test

import (
	"fmt"
	"math/rand"
	"slices"
	"strings"
	"testing"

	"harrier/api"
	"harrier/effort"
)

func newBook(t *testing.T, sizes ...int) *effort.Book {
	t.Helper()
	b, e := effort.NewBook(sizes)
	if e != api.OK || b == nil {
		t.Fatal("NewBook ", sizes, ": ", e)
	}
	return b
}

// pair makes a curve of the sizes 1 and 3.
func pair(sum1, sum3 int) []api.Best {
	c := []api.Best{{Size: 1}, {Size: 3}}
	for i, sum := range []int{sum1, sum3} {
		if sum >= 0 {
			c[i] = api.Best{Size: c[i].Size, Sum: sum, At: 10*sum + i, Found: true}
		}
	}
	return c
}

func TestD6NewBook(t *testing.T) {
	for _, c := range []struct {
		sizes []int
		want  api.Errno
	}{{[]int{1, 3}, api.OK}, {rising(1, 100), api.OK}, {nil, api.ErrEmpty}, {rising(1, 101), api.ErrSize}, {[]int{0}, api.ErrRange}, {[]int{2, 2}, api.ErrOrder}} {
		b, e := effort.NewBook(c.sizes)
		want(t, fmt.Sprint("NewBook ", c.sizes), told(b != nil, e), told(c.want == api.OK, c.want))
	}
	b := newBook(t, 1, 3)
	want(t, "a new book", told(b.Names(), b.Holders(), b.Remove("a")), "[] [] 4")
}

func TestD6Add(t *testing.T) {
	b := newBook(t, 1, 3)
	want(t, "Add", told(b.Add("b", pair(5, 6))), "0")
	bad := []api.Best{{Size: 1, Sum: 1}}
	for _, c := range []struct {
		name string
		c    []api.Best
		want api.Errno
	}{
		{"", pair(1, 1), api.ErrName}, {"a b", pair(1, 1), api.ErrName}, {strings.Repeat("a", 61), pair(1, 1), api.ErrName}, {"ä", bad, api.ErrName}, {"", nil, api.ErrName},
		{"a", nil, api.ErrEmpty}, {"a", bad, api.ErrForm}, {"a", []api.Best{{Size: 0}}, api.ErrRange}, {"b", []api.Best{{Size: 3}, {Size: 1}}, api.ErrOrder}, {"b", curveOf(rising(1, 101)), api.ErrSize},
		{"a", pair(1, 1)[:1], api.ErrForm}, {"a", append(pair(1, 1), api.Best{Size: 4}), api.ErrForm}, {"a", []api.Best{{Size: 1}, {Size: 2}}, api.ErrForm}, {"b", []api.Best{{Size: 2}, {Size: 3}}, api.ErrForm},
		{"b", pair(5, 6), api.ErrTwice}, {"b", pair(-1, -1), api.ErrTwice},
		{strings.Repeat("z", 60), pair(-1, -1), api.OK}, {"A-_.9", pair(1, 1), api.OK},
	} {
		want(t, fmt.Sprint("Add ", c.name, c.c), told(b.Add(c.name, c.c)), told(c.want))
	}
	want(t, "Names", told(b.Names()), told([]string{"A-_.9", "b", strings.Repeat("z", 60)}))
	want(t, "Holders", told(b.Holders()), "[{1 5 50 b} {3 6 61 b}]")
}

func TestD6Remove(t *testing.T) {
	b := newBook(t, 1, 3)
	want(t, "none", told(b.Remove("a")), "4")
	want(t, "Add", told(b.Add("a", pair(5, 6)), b.Add("b", pair(4, -1))), "0 0")
	want(t, "Remove", told(b.Remove("a"), b.Remove("a"), b.Remove(""), b.Names(), b.Holders()), "0 4 4 [b] [{1 4 40 b}]")
	want(t, "Add again", told(b.Add("a", pair(3, 7)), b.Names(), b.Holders()), "0 [a b] [{1 4 40 b} {3 7 71 a}]")
}

func TestD6Full(t *testing.T) {
	b := newBook(t, 1, 3)
	for i := range 5000 {
		if e := b.Add(fmt.Sprint("n", i), pair(i, i%7)); e != api.OK {
			t.Fatal("Add ", i, ": ", e)
		}
	}
	want(t, "one more", told(b.Add("x", pair(9999, 9))), "3")
	want(t, "one more with errors", told(b.Add("n7", pair(1, 1)), b.Add("x", pair(1, 1)[:1]), b.Add("x", nil), b.Add("", pair(1, 1))), "5 2 13 8")
	want(t, "Holders", told(len(b.Names()), b.Holders()), "5000 [{1 4999 49990 n4999} {3 6 61 n1000}]")
	rank, ok, e := b.Rank(1, "n0")
	want(t, "Rank", told(rank, ok, e), "4999 true 0")
	want(t, "one instead", told(b.Remove("n4999"), b.Add("x", pair(9999, 9)), b.Add("y", pair(1, 1))), "0 0 3")
	want(t, "Holders", told(len(b.Names()), b.Holders()), "5000 [{1 9999 99990 x} {3 9 91 x}]")
}

func TestD6Rank(t *testing.T) {
	b := newBook(t, 1, 3)
	for name, c := range map[string][]api.Best{"a": pair(5, -1), "b": pair(7, 0), "c": pair(5, 0), "d": pair(-1, -1), "B": pair(4, 2)} {
		want(t, "Add "+name, told(b.Add(name, c)), "0")
	}
	for _, c := range []struct {
		size int
		name string
		want string
	}{
		{1, "b", "0 true 0"}, {1, "a", "1 true 0"}, {1, "c", "2 true 0"}, {1, "B", "3 true 0"}, {1, "d", "0 false 0"},
		// One that is not found is not equal to one of nothing, whatever the names are.
		{3, "B", "0 true 0"}, {3, "b", "1 true 0"}, {3, "c", "2 true 0"}, {3, "a", "0 false 0"}, {3, "d", "0 false 0"},
		{2, "a", "0 false 4"}, {0, "a", "0 false 4"}, {4, "a", "0 false 4"}, {-1, "x", "0 false 4"}, {1, "x", "0 false 4"}, {3, "", "0 false 4"},
	} {
		rank, ok, e := b.Rank(c.size, c.name)
		want(t, fmt.Sprint("Rank ", c.size, c.name), told(rank, ok, e), c.want)
	}
}

func TestD6Holders(t *testing.T) {
	b := newBook(t, 1, 3)
	for _, c := range []struct {
		name string
		c    []api.Best
		want string
	}{
		{"m", pair(-1, -1), "[]"}, {"n", pair(-1, 0), "[{3 0 1 n}]"}, {"o", pair(0, 0), "[{1 0 0 o} {3 0 1 n}]"}, {"p", pair(2, 1), "[{1 2 20 p} {3 1 11 p}]"},
		{"q", pair(2, 1), "[{1 2 20 p} {3 1 11 p}]"}, {"P", pair(2, 0), "[{1 2 20 P} {3 1 11 p}]"}, {"k", pair(1, 3), "[{1 2 20 P} {3 3 31 k}]"},
	} {
		want(t, "Add "+c.name, told(b.Add(c.name, c.c), b.Holders()), "0 "+c.want)
	}
}

// TestD6OwnMemory asks whether a book keeps anything of its arguments, or gives anything of its own away (Z2).
func TestD6OwnMemory(t *testing.T) {
	sizes := []int{1, 3}
	b, _ := effort.NewBook(sizes)
	sizes[0], sizes[1] = 7, 8
	c := pair(5, 6)
	want(t, "Add", told(b.Add("a", c), b.Add("b", pair(4, 4))), "0 0")
	c[0], c[1] = api.Best{}, api.Best{}
	for range 2 {
		names, holders := b.Names(), b.Holders()
		want(t, "what the book tells", told(names, holders), "[a b] [{1 5 50 a} {3 6 61 a}]")
		names[0], holders[0] = "x", api.Holder{}
	}
	rank, ok, e := b.Rank(3, "b")
	want(t, "Rank", told(rank, ok, e), "1 true 0")
	other := newBook(t, 1, 3)
	want(t, "another book", told(other.Names()), "[]")
}

// shelf has the curves of a book in the order in which they came.
type shelf struct {
	names  []string
	curves [][]api.Best
}

func (s *shelf) tell(sizes []int) string {
	names := slices.Clone(s.names)
	slices.Sort(names)
	holders := []api.Holder{}
	var ranks []any
	for i, size := range sizes {
		for k, name := range s.names {
			x, rank := s.curves[k][i], 0
			for m, y := range s.curves {
				if x.Found && y[i].Found && (y[i].Sum > x.Sum || y[i].Sum == x.Sum && s.names[m] < name) {
					rank++
				}
			}
			if x.Found && rank == 0 {
				holders = append(holders, api.Holder{Size: size, Sum: x.Sum, At: x.At, Name: name})
			}
			ranks = append(ranks, size, name, rank, x.Found)
		}
	}
	return told(names, holders, ranks)
}

func (s *shelf) tellOf(b *effort.Book, sizes []int) string {
	var ranks []any
	for _, size := range sizes {
		for _, name := range s.names {
			rank, ok, e := b.Rank(size, name)
			if e != api.OK {
				return told("Rank: ", e)
			}
			ranks = append(ranks, size, name, rank, ok)
		}
	}
	return told(b.Names(), b.Holders(), ranks)
}

// TestD6AnyOrder: what a book tells is the same whatever the order in which curves came and went.
func TestD6AnyOrder(t *testing.T) {
	r := rand.New(rand.NewSource(6))
	for range 200 {
		sizes := rising(1+r.Intn(3), 1+r.Intn(4))
		b := newBook(t, sizes...)
		var s shelf
		for range 60 {
			name := string(rune('a' + r.Intn(8)))
			at := slices.Index(s.names, name)
			if r.Intn(3) == 0 {
				want(t, "Remove", told(b.Remove(name) == api.OK), told(at >= 0))
				if at >= 0 {
					s.names, s.curves = slices.Delete(s.names, at, at+1), slices.Delete(s.curves, at, at+1)
				}
			} else {
				c := someCurveOf(r, sizes)
				want(t, "Add", told(b.Add(name, c) == api.OK), told(at < 0))
				if at < 0 {
					s.names, s.curves = append(s.names, name), append(s.curves, c)
				}
			}
			want(t, "what the book tells", s.tellOf(b, sizes), s.tell(sizes))
		}
		again := newBook(t, sizes...)
		for _, i := range r.Perm(len(s.names)) {
			want(t, "Add", told(again.Add(s.names[i], s.curves[i])), "0")
		}
		want(t, "another order", s.tellOf(again, sizes), s.tell(sizes))
	}
}

func someCurveOf(r *rand.Rand, sizes []int) []api.Best {
	var c []api.Best
	for _, size := range sizes {
		x := api.Best{Size: size}
		if r.Intn(3) > 0 {
			x = api.Best{Size: size, Sum: r.Intn(4), At: r.Intn(100), Found: true}
		}
		c = append(c, x)
	}
	return c
}
