package load_test

import (
	"fmt"
	"math/big"
	"math/rand"
	"slices"
	"testing"

	"harrier/api"
	"harrier/load"
)

func newBook(t *testing.T, first, fitness, fatigue int) *load.Book {
	t.Helper()
	b, e := load.NewBook(first, fitness, fatigue)
	if e != api.OK || b == nil {
		t.Fatal("NewBook ", first, fitness, fatigue, ": ", e)
	}
	return b
}

func on(b *load.Book, day int) string { x, e := b.On(day); return told(x, e) }

func between(b *load.Book, from, to int) string { l, e := b.Between(from, to); return told(l, e) }

func ratio(b *load.Book, day int) string { x, ok, e := b.Ratio(day); return told(x, ok, e) }

func TestF6NewBook(t *testing.T) {
	runRanges(t, []rangeCase{
		{"first", 0, api.MaxDay, func(n int) api.Errno { _, e := load.NewBook(n, 5, 5); return e }},
		{"fitness", 0, 10000000, func(n int) api.Errno { _, e := load.NewBook(5, n, 5); return e }},
		{"fatigue", 0, 10000000, func(n int) api.Errno { _, e := load.NewBook(5, 5, n); return e }},
	})
	b := newBook(t, 10, 4200, 700)
	want(t, "a new book", told(on(b, 10), ratio(b, 10), b.Take(10, 1)), "{10 0 4100 600 3500} 0 {0 1} false 0 4")
	want(t, "days without loads", between(b, 10, 12), "[{10 0 4100 600 3500} {11 0 4002 514 3500} {12 0 3906 440 3488}] 0")
	want(t, "another book", on(newBook(t, 10, 0, 0), 10), "{10 0 0 0 0} 0")
}

func TestF6AddTake(t *testing.T) {
	b := newBook(t, 10, 0, 0)
	want(t, "the example", told(b.Add(10, 42), b.Add(9, 1), b.Take(11, 1)), "0 9 4")
	want(t, "the example, On", on(b, 11), "{11 0 976 5142 -5000} 0")
	want(t, "the example, Ratio", ratio(b, 11), "{4 1} true 0")
	for _, c := range []struct {
		what string
		got  api.Errno
		want api.Errno
		load int
	}{
		{"more", b.Add(10, 8), api.OK, 50}, {"nothing more", b.Add(10, 0), api.OK, 50}, {"too much more", b.Add(10, 9951), api.ErrSize, 50}, {"all that there can be", b.Add(10, 9950), api.OK, 10000}, {"one more", b.Add(10, 1), api.ErrSize, 10000}, {"nothing more than all", b.Add(10, 0), api.OK, 10000},
		{"less", b.Take(10, 9000), api.OK, 1000}, {"too much less", b.Take(10, 1001), api.ErrNone, 1000}, {"nothing less", b.Take(10, 0), api.OK, 1000}, {"all", b.Take(10, 1000), api.OK, 0}, {"one less", b.Take(10, 1), api.ErrNone, 0}, {"nothing of nothing", b.Take(10, 0), api.OK, 0},
	} {
		want(t, c.what, told(c.got), told(c.want))
	}
	want(t, "at last", on(b, 10), "{10 0 0 0 0} 0")
}

// TestF6Refused asks whether what is refused changes nothing.
func TestF6Refused(t *testing.T) {
	b := newBook(t, 10, 500, 600)
	want(t, "Add", told(b.Add(10, 42), b.Add(12, 9990)), "0 0")
	before := between(b, 10, 60)
	for what, e := range map[string][2]api.Errno{
		"Add, ahead": {b.Add(9, 5), api.ErrRange}, "Add, behind": {b.Add(5010, 5), api.ErrRange}, "Add, much": {b.Add(12, 11), api.ErrSize}, "Add, too much": {b.Add(12, 10001), api.ErrRange}, "Add, below 0": {b.Add(12, -1), api.ErrRange},
		"Take, ahead": {b.Take(9, 0), api.ErrRange}, "Take, behind": {b.Take(5010, 0), api.ErrRange}, "Take, much": {b.Take(12, 9991), api.ErrNone}, "Take, too much": {b.Take(12, 10001), api.ErrRange}, "Take, below 0": {b.Take(12, -1), api.ErrRange}, "Take, none": {b.Take(40, 1), api.ErrNone},
	} {
		want(t, what, told(e[0]), told(e[1]))
	}
	want(t, "all days", between(b, 10, 60), before)
}

func TestF6Days(t *testing.T) {
	for _, c := range []struct{ first, last int }{{10, 5009}, {0, 4999}, {api.MaxDay, api.MaxDay}, {api.MaxDay - 4998, api.MaxDay}, {api.MaxDay - 4999, api.MaxDay}, {api.MaxDay - 5000, api.MaxDay - 1}} {
		day := func(call func(b *load.Book, n int) api.Errno) func(n int) api.Errno {
			return func(n int) api.Errno { return call(newBook(t, c.first, 5, 5), n) }
		}
		runRanges(t, []rangeCase{
			{"Add", c.first, c.last, day(func(b *load.Book, n int) api.Errno { return b.Add(n, 5) })},
			{"Take", c.first, c.last, day(func(b *load.Book, n int) api.Errno { return b.Take(n, 0) })},
			{"On", c.first, c.last, day(func(b *load.Book, n int) api.Errno { _, e := b.On(n); return e })},
			{"Between, from", c.first, c.last, day(func(b *load.Book, n int) api.Errno { _, e := b.Between(n, c.last); return e })},
			{"Between, to", c.first, c.last, day(func(b *load.Book, n int) api.Errno { _, e := b.Between(c.first, n); return e })},
			{"Ratio", c.first, c.last, day(func(b *load.Book, n int) api.Errno { _, _, e := b.Ratio(n); return e })},
		})
	}
	runRanges(t, []rangeCase{
		{"Add, load", 0, 10000, func(n int) api.Errno { return newBook(t, 10, 0, 0).Add(10, n) }},
		{"Take, load", 0, 10000, func(n int) api.Errno {
			b := newBook(t, 10, 0, 0)
			want(t, "Add", told(b.Add(10, 10000)), "0")
			return b.Take(10, n)
		}},
	})
}

func TestF6Between(t *testing.T) {
	b := newBook(t, 10, 1000, 1000)
	want(t, "Add", told(b.Add(11, 43), b.Add(13, 1)), "0 0")
	const all = "{10 0 976 857 0} {11 43 1976 6877 119} {12 0 1928 5894 -4901} {13 1 1905 5194 -3966}"
	want(t, "all", between(b, 10, 13), "["+all+"] 0")
	want(t, "some", between(b, 11, 12), "[{11 43 1976 6877 119} {12 0 1928 5894 -4901}] 0")
	want(t, "one", between(b, 13, 13), "[{13 1 1905 5194 -3966}] 0")
	want(t, "none", between(b, 12, 11), "[] 10")
	want(t, "out of the book, and in no order", told(between(b, 9, 8), between(b, 5010, 10), between(b, 11, 9)), "[] 9 [] 9 [] 9")
	want(t, "all once more", between(b, 10, 13), "["+all+"] 0")
	l, _ := b.Between(10, 5009)
	want(t, "to the last day", told(len(l), l[0].Day, l[4999].Day), "5000 10 5009")
}

func TestF6Ratio(t *testing.T) {
	b := newBook(t, 100, 0, 0)
	want(t, "nothing", ratio(b, 100), "{0 1} false 0")
	want(t, "Add", told(b.Add(100, 30), b.Add(107, 20)), "0 0")
	for day, wanted := range map[int]string{
		100: "{4 1} true 0", 106: "{4 1} true 0", 107: "{8 5} true 0", 113: "{8 5} true 0", 114: "{0 1} true 0", 127: "{0 1} true 0", 128: "{0 1} true 0", 134: "{0 1} true 0", 135: "{0 1} false 0", 5099: "{0 1} false 0",
		99: "{0 0} false 9", 5100: "{0 0} false 9", -1: "{0 0} false 9",
	} {
		want(t, fmt.Sprint("Ratio ", day), ratio(b, day), wanted)
	}
	want(t, "Add", told(b.Add(127, 5), b.Add(128, 25)), "0 0")
	want(t, "the 28 days", told(ratio(b, 127), ratio(b, 128), ratio(b, 133), ratio(b, 134), ratio(b, 135)), "{4 11} true 0 {12 5} true 0 {12 5} true 0 {2 1} true 0 {0 1} true 0")
	want(t, "Take", told(b.Take(127, 5), b.Take(128, 25), b.Take(107, 20)), "0 0 0")
	want(t, "taken away", told(ratio(b, 127), ratio(b, 128)), "{0 1} true 0 {0 1} false 0")
	full := newBook(t, 0, 0, 0)
	for day := range 28 {
		want(t, "Add", told(full.Add(day, 10000)), "0")
	}
	want(t, "full", told(ratio(full, 6), ratio(full, 27)), "{4 1} true 0 {1 1} true 0")
}

// diary has the loads of a book, and tells all from the first day on.
type diary struct {
	first, fitness, fatigue int
	loads                   map[int]int
}

func (d *diary) on(day int) api.State {
	fitness, fatigue := d.fitness, d.fatigue
	for n := d.first; n < day; n++ {
		fitness, fatigue = stepped(fitness, d.loads[n], 42), stepped(fatigue, d.loads[n], 7)
	}
	n := d.loads[day]
	return api.State{Day: day, Load: n, Fitness: stepped(fitness, n, 42), Fatigue: stepped(fatigue, n, 7), Form: fitness - fatigue}
}

func (d *diary) ratio(day int) string {
	week, month := 0, 0
	for n, x := range d.loads {
		if n <= day && n > day-7 {
			week += x
		}
		if n <= day && n > day-28 {
			month += x
		}
	}
	if month == 0 {
		return "{0 1} false 0"
	}
	x := big.NewRat(int64(4*week), int64(month))
	return told("{"+x.Num().String(), x.Denom().String()+"} true 0")
}

// TestF6AnyOrder compares a book with a list of its loads, while they come and go, and at last with one to which they were added at once.
func TestF6AnyOrder(t *testing.T) {
	r := rand.New(rand.NewSource(11))
	for range 100 {
		d := &diary{r.Intn(api.MaxDay), r.Intn(maxState + 1), r.Intn(5000), map[int]int{}}
		b := newBook(t, d.first, d.fitness, d.fatigue)
		last := min(d.first+1+r.Intn(150), api.MaxDay)
		someDay := func() int { return d.first + r.Intn(last-d.first+1) }
		for range 60 {
			day, n := someDay(), r.Intn([]int{3, 4000, 10001}[r.Intn(3)])
			wanted := api.OK
			if r.Intn(3) == 0 {
				if d.loads[day] < n {
					wanted = api.ErrNone
				} else {
					d.loads[day] -= n
				}
				want(t, "Take", told(b.Take(day, n)), told(wanted))
			} else {
				if d.loads[day]+n > 10000 {
					wanted = api.ErrSize
				} else {
					d.loads[day] += n
				}
				want(t, "Add", told(b.Add(day, n)), told(wanted))
			}
			day = someDay()
			want(t, "On", on(b, day), told(d.on(day), 0))
			day = someDay()
			want(t, "Ratio", ratio(b, day), d.ratio(day))
		}
		d.compare(t, b, last)
	}
}

// compare holds a book beside another one with the same loads, added from the last day to the first one.
func (d *diary) compare(t *testing.T, b *load.Book, last int) {
	t.Helper()
	other := newBook(t, d.first, d.fitness, d.fatigue)
	for day := last; day >= d.first; day-- {
		want(t, "Add", told(other.Add(day, d.loads[day])), "0")
	}
	want(t, "another order", between(b, d.first, last), between(other, d.first, last))
	from := d.first + (last-d.first)/2
	var wanted []api.State
	for day := from; day <= last; day++ {
		wanted = append(wanted, d.on(day))
	}
	want(t, "Between", between(b, from, last), told(wanted, 0))
}

// TestF6MoreLoad: more load never makes less fatigue, nor less fitness.
func TestF6MoreLoad(t *testing.T) {
	r := rand.New(rand.NewSource(12))
	for range 200 {
		b := newBook(t, 0, r.Intn(5000), r.Intn(5000))
		for range 30 {
			b.Add(r.Intn(100), r.Intn(300))
		}
		before, _ := b.Between(0, 120)
		day := r.Intn(100)
		want(t, "Add", told(b.Add(day, 1+r.Intn(900))), "0")
		after, _ := b.Between(0, 120)
		for i, x := range after {
			if x.Fitness < before[i].Fitness || x.Fatigue < before[i].Fatigue || i < day && x != before[i] {
				t.Error("more load on day ", day, ": ", x, " instead of ", before[i])
			}
		}
	}
}

// TestF6OwnMemory asks whether a book gives anything of its own away (Z2).
func TestF6OwnMemory(t *testing.T) {
	b := newBook(t, 10, 0, 0)
	want(t, "Add", told(b.Add(10, 7), b.Add(11, 7)), "0 0")
	for range 2 {
		l, e := b.Between(10, 11)
		want(t, "Between", told(l, e), "[{10 7 166 1000 0} {11 7 328 1857 -834}] 0")
		l = slices.Grow(l, 1)
		clear(l[:cap(l)])
	}
}
