package gear_test

import (
	"fmt"
	"math/big"
	"math/rand"
	"slices"
	"testing"

	"harrier/api"
	"harrier/gear"
)

func TestI3Pieces(t *testing.T) {
	long := use("u", "tandem", 10, 10, 100)
	for _, c := range []struct {
		what string
		g    api.Garage
		want string
	}{
		{"the example", withUses(bikes(mount("seat", "a", 0, 1000), mount("seat", "b", 1000, -1)), use("u", "tandem", 900, 200, 1000)), "[{u seat a 100 500} {u seat b 100 500}] 0"},
		{"nothing", api.Garage{}, "[] 0"},
		{"no use", bikes(mount("seat", "a", 0, -1)), "[] 0"},
		{"no part", withUses(bikes(), long), "[{u seat  10 100}] 0"},
		{"a part in another slot", withUses(bikes(mount("front", "a", 0, -1)), long), "[{u seat  10 100}] 0"},
		{"a part before", withUses(bikes(mount("seat", "a", 0, 10)), long), "[{u seat  10 100}] 0"},
		{"a part behind", withUses(bikes(mount("seat", "a", 20, -1)), long), "[{u seat  10 100}] 0"},
		{"a part all the time", withUses(bikes(mount("seat", "a", 0, -1)), long), "[{u seat a 10 100}] 0"},
		{"a part just then", withUses(bikes(mount("seat", "a", 10, 20)), long), "[{u seat a 10 100}] 0"},
		{"a part at first", withUses(bikes(mount("seat", "a", 0, 11)), long), "[{u seat a 1 10} {u seat  9 90}] 0"},
		{"a part at last", withUses(bikes(mount("seat", "a", 19, -1)), long), "[{u seat  9 90} {u seat a 1 10}] 0"},
		{"a part between", withUses(bikes(mount("seat", "a", 12, 15)), long), "[{u seat  2 20} {u seat a 3 30} {u seat  5 50}] 0"},
		{"one part twice, with a rest", withUses(bikes(mount("seat", "a", 0, 12), mount("seat", "a", 13, -1)), long), "[{u seat a 2 20} {u seat  1 10} {u seat a 7 70}] 0"},
		{"one part twice, without a rest", withUses(bikes(mount("seat", "a", 0, 12), mount("seat", "a", 12, -1)), long), "[{u seat a 2 20} {u seat a 8 80}] 0"},
		{"a part in two slots of a rig", withUses(bikes(mount("front", "a", 0, 13), mount("rear", "a", 13, -1)), use("u", "bike", 10, 10, 10)), "[{u front a 3 3} {u front  7 7} {u rear  3 3} {u rear a 7 7}] 0"},
		{"a rig without slots", withUses(bikes(mount("front", "a", 0, -1)), use("u", "boat", 10, 10, 100)), "[] 0"},
		{"no way", withUses(bikes(mount("seat", "a", 12, 15)), use("u", "tandem", 10, 10, 0)), "[{u seat  2 0} {u seat a 3 0} {u seat  5 0}] 0"},
		{"a rest of the way", withUses(bikes(mount("seat", "a", 11, 12)), use("u", "tandem", 10, 3, 10)), "[{u seat  1 4} {u seat a 1 3} {u seat  1 3}] 0"},
		{"a rest of the way for the greatest remainder", withUses(bikes(mount("seat", "a", 11, 14)), use("u", "tandem", 10, 7, 5)), "[{u seat  1 1} {u seat a 3 2} {u seat  3 2}] 0"},
		{"uses in their order, slots in theirs", withUses(bikes(mount("front", "a", 0, -1)), use("z", "bike", 1, 1, 1), use("a", "tandem", 2, 1, 2), use("m", "bike", 2, 1, 3)), "[{z front a 1 1} {z rear  1 1} {a seat  1 2} {m front a 1 3} {m rear  1 3}] 0"},
		{"beyond the last moment", withUses(bikes(mount("seat", "a", 3, -1)), use("u", "tandem", last, 1000, 1000)), "[{u seat a 1000 1000}] 0"},
		{"beyond the last moment, from it on", withUses(bikes(mount("seat", "a", last, -1)), use("u", "tandem", last-1, 1000, 1000)), "[{u seat  1 1} {u seat a 999 999}] 0"},
		{"beyond the last moment, with an end at it", withUses(bikes(mount("seat", "a", 3, last)), use("u", "tandem", last-1, 1000, 1000)), "[{u seat a 1 1} {u seat  999 999}] 0"},
		{"the longest", withUses(bikes(mount("seat", "a", 1, 1_000_000)), use("u", "tandem", 0, 1_000_000, 1_000_000_000)), "[{u seat  1 1000} {u seat a 999999 999999000}] 0"},
	} {
		want(t, c.what, told(gear.Pieces(c.g)), c.want)
	}
}

// slowShare divides by exact numbers, and gives what is left to the greatest remainders, one by one.
func slowShare(total int, weights []int) []int {
	sum, left := 0, total
	for _, w := range weights {
		sum += w
	}
	parts, rests := make([]int, len(weights)), make([]int, len(weights))
	for i, w := range weights {
		product := new(big.Int).Mul(big.NewInt(int64(total)), big.NewInt(int64(w)))
		q, rest := product.DivMod(product, big.NewInt(int64(sum)), new(big.Int))
		parts[i], rests[i] = int(q.Int64()), int(rest.Int64())
		left -= parts[i]
	}
	for range left {
		best := slices.Index(rests, slices.Max(rests))
		parts[best]++
		rests[best] = -1
	}
	return parts
}

// slowPieces goes through all moments of a use.
func slowPieces(g api.Garage, u api.Use, slot string) (l []api.Piece) {
	var seconds []int
	before := -2
	for now := u.From; now < u.From+u.Seconds; now++ {
		n := slowMount(g, slot, now)
		if n != before {
			l = append(l, api.Piece{Use: u.Name, Slot: slot, Part: slowPart(g, slot, now)})
			seconds = append(seconds, 0)
		}
		before = n
		seconds[len(seconds)-1]++
	}
	for i, way := range slowShare(u.Way, seconds) {
		l[i].Seconds, l[i].Way = seconds[i], way
	}
	return l
}

func slowAllPieces(g api.Garage) (l []api.Piece) {
	for _, u := range g.Uses {
		for _, s := range g.Slots {
			if s.Rig == u.Rig {
				l = append(l, slowPieces(g, u, s.Name)...)
			}
		}
	}
	return l
}

func TestI3PiecesMany(t *testing.T) {
	r := rand.New(rand.NewSource(96))
	for range 6000 {
		g, _ := randomGarage(r)
		got, e := gear.Pieces(g)
		want(t, fmt.Sprint(g), told(got, e), told(slowAllPieces(g), 0))
	}
}

// TestI3Sums asks whether the pieces of each use in each slot add up to it.
func TestI3Sums(t *testing.T) {
	r := rand.New(rand.NewSource(97))
	for range 2000 {
		g, _ := randomGarage(r)
		sums := map[[2]string]api.Wear{}
		l, _ := gear.Pieces(g)
		for _, p := range l {
			w := sums[[2]string{p.Use, p.Slot}]
			w.Seconds += p.Seconds
			w.Way += p.Way
			sums[[2]string{p.Use, p.Slot}] = w
		}
		for _, u := range g.Uses {
			for _, s := range g.Slots {
				if s.Rig == u.Rig {
					want(t, fmt.Sprint(g, u, s), told(sums[[2]string{u.Name, s.Name}]), told(api.Wear{Seconds: u.Seconds, Way: u.Way}))
				}
			}
		}
	}
}

// TestI3ManyPieces has more pieces of a use than quant.Share has weights.
func TestI3ManyPieces(t *testing.T) {
	g := bikes()
	for i := range gear.MaxMounts {
		g.Mounts = append(g.Mounts, mount("seat", one(rand.New(rand.NewSource(int64(i))), "a", "b", "c"), 7*i+3, 7*i+5+i%5))
	}
	u := use("u", "tandem", 0, 20_000, 999_999_999)
	got, e := gear.Pieces(withUses(g, u))
	want(t, "many pieces", told(len(got), e), "4001 0")
	want(t, "many pieces", told(got, e), told(slowPieces(g, u, "seat"), 0))
}

// slowWear adds up the pieces of a part of uses that count.
func slowWear(g api.Garage, part string, counts func(u api.Use) bool) (w api.Wear) {
	for _, u := range g.Uses {
		if !counts(u) {
			continue
		}
		wears := false
		for _, p := range slowAllPieces(withUses(g, u)) {
			if p.Part == part {
				wears = true
				w.Seconds += p.Seconds
				w.Way += p.Way
			}
		}
		if wears {
			w.Uses++
		}
	}
	return w
}

func TestI3WearOf(t *testing.T) {
	g := withUses(bikes(mount("front", "a", 0, 13), mount("rear", "a", 13, 50)), use("u", "bike", 10, 10, 30), use("v", "bike", 20, 10, 7), use("y", "tandem", 20, 10, 10), use("w", "bike", 45, 10, 10), use("x", "bike", 50, 10, 10))
	for _, c := range []struct {
		part     string
		from, to int
		want     string
	}{
		{"a", 0, last, "{25 42 3} 0"}, {"a", 0, 10, "{0 0 0} 0"}, {"a", 0, 11, "{10 30 1} 0"}, {"a", 10, 11, "{10 30 1} 0"}, {"a", 11, 45, "{10 7 1} 0"}, {"a", 11, 46, "{15 12 2} 0"}, {"a", 50, last, "{0 0 0} 0"},
		{"a", 10, 10, "{0 0 0} 0"}, {"a", 0, 0, "{0 0 0} 0"}, {"a", last, last, "{0 0 0} 0"}, {"b", 0, last, "{0 0 0} 0"},
		{"d", -1, -2, "{0 0 0} 4"}, {"", 0, last, "{0 0 0} 4"}, {"a", -1, -2, "{0 0 0} 9"}, {"a", 5, last + 1, "{0 0 0} 9"}, {"a", last + 1, 5, "{0 0 0} 9"}, {"a", 5, 4, "{0 0 0} 10"}, {"a", last, 0, "{0 0 0} 10"},
	} {
		want(t, fmt.Sprint(c.part, c.from, c.to), told(gear.WearOf(g, c.part, c.from, c.to)), c.want)
	}
	g = withUses(bikes(mount("seat", "a", 0, -1)), use("u", "tandem", last-1, 3, 3), use("v", "tandem", last, 2, 5))
	want(t, "before the last moment", told(gear.WearOf(g, "a", 0, last)), "{3 3 1} 0")
}

func TestI3WearOfMany(t *testing.T) {
	r := rand.New(rand.NewSource(98))
	worn := 0
	for range 4000 {
		g, base := randomGarage(r)
		name, from, to := anyPart(r, g), moment(r, base), moment(r, base)
		if from > to {
			from, to = to, from
		}
		if r.Intn(2) == 0 {
			from, to = base, last
		}
		w, e := gear.WearOf(g, name, from, to)
		wanted, wantedE := slowWear(g, name, func(u api.Use) bool { return from <= u.From && u.From < to }), api.OK
		if !hasPart(g, name) {
			wanted, wantedE = api.Wear{}, api.ErrNone
		}
		if w.Uses > 1 {
			worn++
		}
		want(t, fmt.Sprint(g, name, from, to), told(w, e), told(wanted, wantedE))
	}
	if worn < 300 {
		t.Error("not often worn: ", worn)
	}
}

// slowRate rounds an exact number.
func slowRate(cost, way int) string {
	double := new(big.Int).Mul(big.NewInt(2*10_000_000), big.NewInt(int64(cost)))
	double.Add(double, big.NewInt(int64(way)))
	return told(double.Div(double, big.NewInt(int64(2*way))), 0)
}

func TestI4Rate(t *testing.T) {
	of := func(cost, way int) api.Garage {
		g := withUses(bikes(mount("seat", "a", 0, -1)), use("u", "tandem", last, 10, way))
		g.Parts[0].Cost = cost
		return g
	}
	for _, c := range []struct {
		what string
		g    api.Garage
		part string
		want string
	}{
		{"as much as it costs", of(100, 10_000_000), "a", "100 0"},
		{"rounded down", of(1, 20_000_001), "a", "0 0"},
		{"of two the greater one", of(1, 20_000_000), "a", "1 0"},
		{"rounded up", of(1, 19_999_999), "a", "1 0"},
		{"nothing", of(0, 5), "a", "0 0"},
		{"the most", of(gear.MaxCost, 1), "a", "10000000000000000 0"},
		{"no way", of(100, 0), "a", "0 13"},
		{"not used", of(100, 5), "b", "0 13"},
		{"no such part", of(100, 5), "d", "0 4"},
		{"no name", of(100, 5), "", "0 4"},
		{"a slot", of(100, 5), "seat", "0 4"},
	} {
		want(t, c.what, told(gear.Rate(c.g, c.part)), c.want)
	}
}

func TestI4RateMany(t *testing.T) {
	r := rand.New(rand.NewSource(99))
	rated := 0
	for range 4000 {
		g, _ := randomGarage(r)
		name := anyPart(r, g)
		got := told(gear.Rate(g, name))
		way := slowWear(g, name, func(api.Use) bool { return true }).Way
		switch i := slices.IndexFunc(g.Parts, func(x api.GearPart) bool { return x.Name == name }); {
		case i < 0:
			want(t, fmt.Sprint(g, name), got, "0 4")
		case way == 0:
			want(t, fmt.Sprint(g, name), got, "0 13")
		default:
			rated++
			want(t, fmt.Sprint(g, name), got, slowRate(g.Parts[i].Cost, way))
		}
	}
	if rated < 500 {
		t.Error("not often rated: ", rated)
	}
}
