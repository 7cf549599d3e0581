package match_test

import (
	"fmt"
	"math/rand"
	"slices"
	"strings"
	"testing"

	"harrier/api"
	"harrier/match"
)

func score(name string, start, time int) api.Score {
	return api.Score{Name: name, Start: start, Time: time}
}

func TestE4CheckEntry(t *testing.T) {
	for _, c := range []struct {
		x    api.Score
		want api.Errno
	}{
		{score("a", 0, 1), api.OK}, {score(strings.Repeat("A", 60), api.MaxMoment, match.MaxTime), api.OK}, {score("a-_.9", 5, 5), api.OK},
		{score("", 0, 1), api.ErrName}, {score("", -1, 0), api.ErrName}, {score("a b", 0, 1), api.ErrName}, {score(strings.Repeat("A", 61), 0, 1), api.ErrName}, {score("ä", 0, 1), api.ErrName},
		{score("a", -1, 1), api.ErrRange}, {score("a", api.MaxMoment+1, 1), api.ErrRange}, {score("a", 0, 0), api.ErrRange}, {score("a", 0, match.MaxTime+1), api.ErrRange},
		{score("a", -1<<63, 1), api.ErrRange}, {score("a", 1<<63-1, 1), api.ErrRange}, {score("a", 0, -1<<63), api.ErrRange}, {score("a", 0, 1<<63-1), api.ErrRange},
	} {
		want(t, fmt.Sprint("CheckEntry ", c.x), told(match.CheckEntry(c.x)), told(c.want))
		_, e := match.Places([]api.Score{score("b", 1, 1), c.x, {}}[:2])
		want(t, fmt.Sprint("Places ", c.x), told(e), told(c.want))
		b := match.NewBoard()
		want(t, fmt.Sprint("Add ", c.x), told(b.Add(c.x), b.Size()), told(c.want, map[bool]int{true: 1}[c.want == api.OK]))
		want(t, fmt.Sprint("Remove ", c.x), told(b.Remove(c.x)), told(c.want))
	}
}

func TestE4Places(t *testing.T) {
	for _, c := range []struct {
		l    []api.Score
		want string
	}{
		{nil, "[] 0"},
		{[]api.Score{score("a", 5, 9)}, "[{1 {a 5 9}}] 0"},
		{[]api.Score{score("a", 5, 9), score("a", 5, 9)}, "[{1 {a 5 9}}] 0"},
		{[]api.Score{score("a", 5, 9), score("a", 4, 9), score("a", 1, 10)}, "[{1 {a 4 9}}] 0"},
		{[]api.Score{score("b", 5, 9), score("a", 5, 9), score("B", 5, 9)}, "[{1 {B 5 9}} {1 {a 5 9}} {1 {b 5 9}}] 0"},
		{[]api.Score{score("a", 5, 9), score("b", 4, 9), score("c", 0, 10), score("d", 9, 8)}, "[{1 {d 9 8}} {2 {b 4 9}} {2 {a 5 9}} {4 {c 0 10}}] 0"},
		// Of a name just the best entry counts for the ranks of others.
		{[]api.Score{score("a", 1, 1), score("a", 2, 2), score("a", 3, 3), score("b", 4, 4)}, "[{1 {a 1 1}} {2 {b 4 4}}] 0"},
		{[]api.Score{score("a", 0, 1), score("", 0, 1), score("a", -1, 1)}, "[] 8"},
		{[]api.Score{score("a", 0, 1), score("b", -1, 1), score("", 0, 1)}, "[] 9"},
	} {
		l, e := match.Places(c.l)
		want(t, fmt.Sprint("Places ", c.l), told(l, e), c.want)
	}
	many := slices.Repeat([]api.Score{score("a", 0, 1)}, match.MaxBoard)
	l, e := match.Places(many)
	want(t, "as many as there can be", told(l, e), "[{1 {a 0 1}}] 0")
	_, e = match.Places(append(many, score("", 0, 1)))
	want(t, "one more", told(e), told(api.ErrSize))
}

// ranked finds the places name by name.
func ranked(l []api.Score) []api.Place {
	best := map[string]api.Score{}
	for _, x := range l {
		if y, ok := best[x.Name]; !ok || x.Time < y.Time || x.Time == y.Time && x.Start < y.Start {
			best[x.Name] = x
		}
	}
	var list []api.Place
	for _, x := range best {
		place := api.Place{Rank: 1, Score: x}
		for _, y := range best {
			if y.Time < x.Time {
				place.Rank++
			}
		}
		list = append(list, place)
	}
	slices.SortFunc(list, func(x, y api.Place) int {
		return strings.Compare(fmt.Sprintf("%9d %9d %s", x.Score.Time, x.Score.Start, x.Score.Name), fmt.Sprintf("%9d %9d %s", y.Score.Time, y.Score.Start, y.Score.Name))
	})
	return list
}

func someScore(r *rand.Rand) api.Score {
	return score(string(rune("aBcDeF"[r.Intn(6)])), r.Intn(3), 1+r.Intn(3))
}

func TestE4Ranked(t *testing.T) {
	r := rand.New(rand.NewSource(4))
	for i := range 3000 {
		var l []api.Score
		for range i % 12 {
			l = append(l, someScore(r))
		}
		got, e := match.Places(l)
		want(t, fmt.Sprint("Places ", l), told(got, e), told(ranked(l), 0))
	}
}

func TestE5Board(t *testing.T) {
	b := match.NewBoard()
	want(t, "a new board", told(b.Places(), b.Size(), b.Remove(score("a", 5, 9))), "[] 0 4")
	want(t, "Add", told(b.Add(score("a", 5, 9)), b.Add(score("a", 5, 9)), b.Add(score("b", 1, 8)), b.Size()), "0 0 0 3")
	want(t, "Places", told(b.Places()), "[{1 {b 1 8}} {2 {a 5 9}}]")
	want(t, "no equal one", told(b.Remove(score("a", 5, 8)), b.Remove(score("a", 4, 9)), b.Remove(score("c", 5, 9)), b.Size()), "4 4 4 3")
	want(t, "errors of entries", told(b.Remove(score("", 5, 9)), b.Remove(score("c", -1, 9)), b.Remove(score("c", 1, 0)), b.Add(score("", -1, 9)), b.Add(score("c", -1, 9)), b.Size()), "8 9 9 8 9 3")
	want(t, "one of two", told(b.Remove(score("a", 5, 9)), b.Size(), b.Places()), "0 2 [{1 {b 1 8}} {2 {a 5 9}}]")
	want(t, "the other one", told(b.Remove(score("a", 5, 9)), b.Size(), b.Places()), "0 1 [{1 {b 1 8}}]")
	want(t, "no third one", told(b.Remove(score("a", 5, 9)), b.Size()), "4 1")
	want(t, "another board", told(match.NewBoard().Size()), "0")
}

func TestE5Full(t *testing.T) {
	b := match.NewBoard()
	for i := range match.MaxBoard {
		if e := b.Add(score(fmt.Sprint("n", i/2), i/4, 1+i/8)); e != api.OK {
			t.Fatal("Add ", i, ": ", e)
		}
	}
	want(t, "one more", told(b.Add(score("x", 0, 1)), b.Add(score("n0", 0, 1)), b.Size()), "3 3 5000")
	want(t, "one more with errors", told(b.Add(score("", 0, 1)), b.Add(score("x", 0, 0)), b.Size()), "8 9 5000")
	want(t, "Places", told(len(b.Places()), b.Places()[2499]), "2500 {2497 {n2499 1249 625}}")
	want(t, "one instead", told(b.Remove(score("n0", 0, 1)), b.Add(score("x", 0, 1)), b.Add(score("y", 0, 1)), b.Size()), "0 0 3 5000")
}

func TestE5OwnMemory(t *testing.T) {
	b := match.NewBoard()
	want(t, "Add", told(b.Add(score("a", 5, 9)), b.Add(score("b", 5, 9))), "0 0")
	for range 2 {
		l := b.Places()
		want(t, "Places", told(l), "[{1 {a 5 9}} {1 {b 5 9}}]")
		l[0], l[1] = api.Place{}, api.Place{}
	}
}

// TestE5AnyOrder compares a board with the list of its entries.
func TestE5AnyOrder(t *testing.T) {
	r := rand.New(rand.NewSource(5))
	for range 200 {
		b := match.NewBoard()
		var l []api.Score
		for range 60 {
			x := someScore(r)
			if at := slices.Index(l, x); r.Intn(2) == 0 {
				want(t, "Remove", told(b.Remove(x) == api.OK), told(at >= 0))
				if at >= 0 {
					l = slices.Delete(l, at, at+1)
				}
			} else {
				want(t, "Add", told(b.Add(x)), "0")
				l = append(l, x)
			}
			want(t, fmt.Sprint("a board with ", l), told(b.Places(), b.Size()), told(ranked(l), len(l)))
		}
	}
}
