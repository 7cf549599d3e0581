package gear_test

import (
	"fmt"
	"math/rand"
	"slices"
	"testing"

	"harrier/api"
	"harrier/gear"
)

// uses tells of the uses of what Add and Drop return.
func uses(g api.Garage, e api.Errno) string { return told(g.Uses, e) }

func TestI2Add(t *testing.T) {
	g := withUses(bikes(), use("b", "bike", 5, 10, 20), use("d", "bike", 5, 10, 20))
	for _, c := range []struct {
		what string
		u    api.Use
		want string
	}{
		{"ahead", use("x", "bike", 4, 1, 0), "[{x bike 4 1 0} {b bike 5 10 20} {d bike 5 10 20}] 0"},
		{"ahead by its name", use("a", "r", 5, 1, 0), "[{a r 5 1 0} {b bike 5 10 20} {d bike 5 10 20}] 0"},
		{"between", use("c", "r", 5, 1, 0), "[{b bike 5 10 20} {c r 5 1 0} {d bike 5 10 20}] 0"},
		{"behind by its name", use("e", "r", 5, 1, 0), "[{b bike 5 10 20} {d bike 5 10 20} {e r 5 1 0}] 0"},
		{"behind", use("a", "r", 6, 1_000_000, 1_000_000_000), "[{b bike 5 10 20} {d bike 5 10 20} {a r 6 1000000 1000000000}] 0"},
		{"at the last moment", use("a", "r", last, 1_000_000, 0), "[{b bike 5 10 20} {d bike 5 10 20} {a r 86399999999 1000000 0}] 0"},
		{"no name", use("", "r", -1, 0, -1), "[] 8"},
		{"no rig", use("b", "", -1, 0, -1), "[] 8"},
		{"a name that is there", use("d", "r", -1, 0, -1), "[] 5"},
		{"a name that is there, of a later use", use("b", "r", 0, 1, 0), "[] 5"},
		{"From -1", use("a", "r", -1, 1, 0), "[] 9"},
		{"From beyond", use("a", "r", last+1, 1, 0), "[] 9"},
		{"Seconds 0", use("a", "r", 1, 0, 0), "[] 9"},
		{"Seconds beyond", use("a", "r", 1, 1_000_001, 0), "[] 9"},
		{"Way -1", use("a", "r", 1, 1, -1), "[] 9"},
		{"Way beyond", use("a", "r", 1, 1, 1_000_000_001), "[] 9"},
	} {
		want(t, c.what, uses(gear.Add(g, c.u)), c.want)
	}
	want(t, "all else", told(gear.Add(g, use("e", "r", 5, 1, 0))), told(withUses(bikes(), append(slices.Clone(g.Uses), use("e", "r", 5, 1, 0))...), 0))
}

func TestI2Drop(t *testing.T) {
	g := withUses(bikes(), use("b", "bike", 5, 10, 20), use("d", "bike", 5, 10, 20))
	want(t, "the first one", told(gear.Drop(g, "b")), told(withUses(bikes(), use("d", "bike", 5, 10, 20)), 0))
	want(t, "the last one", uses(gear.Drop(g, "d")), "[{b bike 5 10 20}] 0")
	want(t, "none", uses(gear.Drop(g, "c")), "[] 4")
	want(t, "no name", uses(gear.Drop(g, "")), "[] 4")
	want(t, "out of none", uses(gear.Drop(bikes(), "b")), "[] 4")
}

func TestI2AddSize(t *testing.T) {
	g := large()
	want(t, "one more", uses(gear.Add(g, use("z", "bike", 1, 1, 1))), "[] 3")
	want(t, "one more, out of its range", uses(gear.Add(g, use("z", "bike", 1, 0, 1))), "[] 9")
	g, e := gear.Drop(g, "u0000")
	want(t, "one less", told(len(g.Uses), e), "4999 0")
	g, e = gear.Add(g, use("z", "bike", 1, 1, 1))
	want(t, "the last one that is permitted", told(len(g.Uses), e), "5000 0")
}

// TestI7AnyOrder adds uses in another order, and drops others between.
func TestI7AnyOrder(t *testing.T) {
	r := rand.New(rand.NewSource(94))
	for range 2000 {
		g, base := randomGarage(r)
		h := withUses(g)
		for i, n := range r.Perm(len(g.Uses)) {
			u := use(fmt.Sprint("more", i), one(r, "bike", "shoes"), moment(r, base), 5, 5)
			for _, x := range []api.Use{u, g.Uses[n]} {
				next, e := gear.Add(h, x)
				want(t, "Add", told(e), "0")
				h = next
			}
			want(t, "Check", told(gear.Check(h)), "0")
		}
		for i := range r.Perm(len(g.Uses)) {
			h, _ = gear.Drop(h, fmt.Sprint("more", i))
		}
		want(t, "in another order", told(h), told(g))
	}
}

func TestI3Total(t *testing.T) {
	g := withUses(bikes(mount("front", "a", 0, 3)), use("u", "bike", 1, 10, 100), use("v", "boat", 1, 7, 70), use("w", "bike", 1, 20, 0), use("x", "bike", last, 1, 1))
	for rig, wanted := range map[string]string{"bike": "{31 101 3} 0", "boat": "{7 70 1} 0", "tandem": "{0 0 0} 0", "none": "{0 0 0} 0", "front": "{0 0 0} 0", "": "{0 0 0} 8", "a b": "{0 0 0} 8"} {
		want(t, rig, told(gear.Total(g, rig)), wanted)
	}
	r := rand.New(rand.NewSource(95))
	for range 1000 {
		g, _ := randomGarage(r)
		rig := one(r, "bike", "shoes", "boat")
		var w api.Wear
		for _, u := range g.Uses {
			if u.Rig == rig {
				w.Seconds += u.Seconds
				w.Way += u.Way
				w.Uses++
			}
		}
		want(t, fmt.Sprint(g, rig), told(gear.Total(g, rig)), told(w, 0))
	}
}
