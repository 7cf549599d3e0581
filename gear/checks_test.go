package gear_test

import (
	"fmt"
	"math"
	"math/rand"
	"slices"
	"strings"
	"testing"

	"harrier/api"
	"harrier/gear"
)

func TestI1Limits(t *testing.T) {
	want(t, "limits", told(gear.MaxParts, gear.MaxSlots, gear.MaxMounts, gear.MaxUses, gear.MaxPlans, gear.MaxCost), "500 100 2000 5000 200 1000000000")
}

// large has a part, a slot and a mount, and then so many that they are just permitted.
func large() api.Garage {
	var g api.Garage
	for i := range gear.MaxParts {
		g.Parts = append(g.Parts, part(fmt.Sprintf("p%03d", i), i))
	}
	for i := range gear.MaxSlots {
		g.Slots = append(g.Slots, slot(fmt.Sprintf("s%02d", i), "bike"))
	}
	for i := range gear.MaxMounts {
		g.Mounts = append(g.Mounts, mount(g.Slots[i%100].Name, g.Parts[i%500].Name, i/100, i/100+1))
	}
	for i := range gear.MaxUses {
		g.Uses = append(g.Uses, use(fmt.Sprintf("u%04d", i), "bike", i/2, 1, i))
	}
	return g
}

func TestI1Sizes(t *testing.T) {
	want(t, "as large as can be", told(gear.Check(large())), "0")
	for what, change := range map[string]func(g *api.Garage){
		"parts":  func(g *api.Garage) { g.Parts = append(g.Parts, part("z", 0)) },
		"slots":  func(g *api.Garage) { g.Slots = append(g.Slots, slot("z", "bike")) },
		"mounts": func(g *api.Garage) { g.Mounts = append(g.Mounts, mount("s00", "p000", 5000, -1)) },
		"uses":   func(g *api.Garage) { g.Uses = append(g.Uses, use("z", "bike", 5000, 1, 1)) },
	} {
		g := large()
		change(&g)
		want(t, what, told(gear.Check(g)), "3")
		g.Parts[0].Name, g.Slots[0].Name, g.Mounts[0].From, g.Uses[0].Way = "", "", -1, -1
		want(t, what+", and all else wrong", told(gear.Check(g)), "3")
	}
}

// TestI1Ranges has numbers just in their ranges and just out of them.
func TestI1Ranges(t *testing.T) {
	for _, c := range []struct {
		what      string
		low, high int
		g         func(n int) api.Garage
	}{
		{"Cost", 0, 1_000_000_000, func(n int) api.Garage { return api.Garage{Parts: []api.GearPart{part("a", n)}} }},
		{"From of a mount", 0, 86_399_999_999, func(n int) api.Garage { return bikes(mount("seat", "a", n, -1)) }},
		{"To", 0, 86_399_999_999, func(n int) api.Garage {
			g := bikes(mount("seat", "a", 0, n))
			if n == 0 { // which is in its range, but not above From
				g.Mounts[0].To = 1
			}
			if n == -1 { // which is in its range, too
				g.Mounts[0].To = -2
			}
			return g
		}},
		{"From of a use", 0, 86_399_999_999, func(n int) api.Garage { return withUses(bikes(), use("u", "r", n, 1, 0)) }},
		{"Seconds", 1, 1_000_000, func(n int) api.Garage { return withUses(bikes(), use("u", "r", 0, n, 0)) }},
		{"Way", 0, 1_000_000_000, func(n int) api.Garage { return withUses(bikes(), use("u", "r", 0, 1, n)) }},
	} {
		for n, e := range map[int]api.Errno{c.low: 0, c.high: 0, (c.low + c.high) / 2: 0, c.low - 1: 9, c.high + 1: 9, math.MinInt: 9, math.MaxInt: 9} {
			want(t, fmt.Sprint(c.what, " ", n), told(gear.Check(c.g(n))), told(e))
		}
	}
}

func TestI1Check(t *testing.T) {
	parts := func(l ...api.GearPart) api.Garage { return api.Garage{Parts: l} }
	slots := func(l ...api.Slot) api.Garage { return api.Garage{Slots: l} }
	uses := func(l ...api.Use) api.Garage { return api.Garage{Uses: l} }
	for _, c := range []struct {
		what string
		g    api.Garage
		want api.Errno
	}{
		{"nothing", api.Garage{}, api.OK},
		{"empty lists", api.Garage{Parts: []api.GearPart{}, Slots: []api.Slot{}, Mounts: []api.Mount{}, Uses: []api.Use{}}, api.OK},
		{"bikes", bikes(), api.OK},
		{"a part without a name", parts(part("", 0)), api.ErrName},
		{"a part with a blank", parts(part("a b", 0)), api.ErrName},
		{"a part with a name of 60 bytes", parts(part(strings.Repeat("x", 60), 0)), api.OK},
		{"a part with a name of 61 bytes", parts(part(strings.Repeat("x", 61), 0)), api.ErrName},
		{"a part twice", parts(part("a", 1), part("a", 2)), api.ErrOrder},
		{"parts that fall", parts(part("b", 0), part("a", 0)), api.ErrOrder},
		{"parts by bytes", parts(part("-", 0), part("A", 0), part("B", 0), part("_", 0), part("a", 0), part("aa", 0)), api.OK},
		{"parts not by bytes", parts(part("a", 0), part("B", 0)), api.ErrOrder},
		{"a name of a part ahead of its order", parts(part("b", 0), part("", -1)), api.ErrName},
		{"an order of a part ahead of its cost", parts(part("b", 0), part("a", -1)), api.ErrOrder},
		{"a cost ahead of the next name", parts(part("b", -1), part("", 0)), api.ErrRange},
		{"a part ahead of a slot", api.Garage{Parts: []api.GearPart{part("a", -1)}, Slots: []api.Slot{slot("", "")}}, api.ErrRange},
		{"a slot without a name", slots(slot("", "r")), api.ErrName},
		{"a slot without a rig", slots(slot("a", "")), api.ErrName},
		{"a slot twice", slots(slot("a", "r"), slot("a", "s")), api.ErrOrder},
		{"slots that fall", slots(slot("b", "r"), slot("a", "r")), api.ErrOrder},
		{"an order of a slot ahead of its rig", slots(slot("b", "r"), slot("a", "")), api.ErrOrder},
		{"a rig ahead of the next order", slots(slot("b", "ü"), slot("a", "r")), api.ErrName},
		{"a slot of the name of a part and of its rig", api.Garage{Parts: []api.GearPart{part("a", 0)}, Slots: []api.Slot{slot("a", "a")}}, api.OK},
		{"a slot ahead of a mount", api.Garage{Slots: []api.Slot{slot("a", "")}, Mounts: make([]api.Mount, 1)}, api.ErrName},
		{"a mount in no slot", bikes(mount("side", "a", -1, -5)), api.ErrNone},
		{"a mount of no part", bikes(mount("seat", "d", -1, -5)), api.ErrNone},
		{"a mount without names", bikes(mount("", "", 0, -1)), api.ErrNone},
		{"a mount in a part", bikes(mount("a", "seat", 0, -1)), api.ErrNone},
		{"a mount To -2", bikes(mount("seat", "a", 0, -2)), api.ErrRange},
		{"a mount for a moment", bikes(mount("seat", "a", 7, 8)), api.OK},
		{"a mount for no moment", bikes(mount("seat", "a", 7, 7)), api.ErrOrder},
		{"a mount To 0", bikes(mount("seat", "a", 0, 0)), api.ErrOrder},
		{"a mount backwards", bikes(mount("seat", "a", 7, 6)), api.ErrOrder},
		{"a mount from the last moment", bikes(mount("seat", "a", last, -1)), api.OK},
		{"a mount to the last moment", bikes(mount("seat", "a", last-1, last)), api.OK},
		{"a mount beyond the last moment", bikes(mount("seat", "a", 0, last+1)), api.ErrRange},
		{"mounts by slots", bikes(mount("front", "b", 3, 4), mount("rear", "a", 3, -1)), api.OK},
		{"mounts not by slots", bikes(mount("rear", "a", 3, -1), mount("front", "b", 3, 4)), api.ErrOrder},
		{"mounts that fall", bikes(mount("front", "a", 3, -1), mount("rear", "b", 2, 4)), api.ErrOrder},
		{"a mount twice", bikes(mount("front", "a", 3, 5), mount("front", "a", 3, 5)), api.ErrOrder},
		{"two mounts of a slot from a moment on", bikes(mount("front", "a", 3, 5), mount("front", "b", 3, 5)), api.ErrOrder},
		{"two mounts of a part from a moment on", bikes(mount("front", "a", 3, 5), mount("rear", "a", 3, 5)), api.ErrState},
		{"a slot once more", bikes(mount("front", "a", 3, 5), mount("front", "b", 5, 6)), api.OK},
		{"the same once more", bikes(mount("front", "a", 3, 5), mount("front", "a", 5, -1)), api.OK},
		{"a slot a moment too early", bikes(mount("front", "a", 3, 5), mount("front", "b", 4, 6)), api.ErrState},
		{"a part once more", bikes(mount("front", "a", 3, 5), mount("rear", "a", 5, 6)), api.OK},
		{"a part a moment too early", bikes(mount("front", "a", 3, 5), mount("rear", "a", 4, 6)), api.ErrState},
		{"a slot that has no end", bikes(mount("front", "a", 3, -1), mount("front", "b", last, -1)), api.ErrState},
		{"a part that has no end", bikes(mount("front", "a", 3, -1), mount("rear", "a", last, -1)), api.ErrState},
		{"one within another one", bikes(mount("front", "a", 3, 50), mount("rear", "b", 4, 5), mount("front", "c", 20, 30)), api.ErrState},
		{"a part behind two others", bikes(mount("front", "a", 3, 50), mount("rear", "b", 4, 5), mount("rear", "c", 5, 6), mount("seat", "a", 49, -1)), api.ErrState},
		{"a wrong mount behind two that overlap", bikes(mount("front", "a", 3, -1), mount("front", "b", 4, -1), mount("rear", "c", -1, -1)), api.ErrRange},
		{"two that overlap ahead of a use", withUses(bikes(mount("front", "a", 3, -1), mount("front", "b", 4, -1)), api.Use{}), api.ErrState},
		{"a use without a name", uses(use("", "r", 0, 1, 0)), api.ErrName},
		{"a use without a rig", uses(use("u", "", 0, 1, 0)), api.ErrName},
		{"a use of a rig without a slot", uses(use("u", "r", 0, 1, 0)), api.OK},
		{"a use twice", uses(use("u", "r", 0, 1, 0), use("u", "s", 5, 1, 0)), api.ErrTwice},
		{"a use twice, of no rig", uses(use("u", "r", 0, 1, 0), use("u", "", 5, 1, 0)), api.ErrName},
		{"a use twice, out of its range", uses(use("u", "r", 0, 1, 0), use("v", "r", 0, 1, 0), use("u", "r", 0, 0, 0)), api.ErrTwice},
		{"a range of a use ahead of its order", uses(use("u", "r", 5, 1, 0), use("t", "r", 0, 0, 0)), api.ErrRange},
		{"uses that fall", uses(use("a", "r", 5, 1, 0), use("b", "r", 4, 1, 0)), api.ErrOrder},
		{"uses of a moment that fall", uses(use("b", "r", 5, 1, 0), use("a", "r", 5, 1, 0)), api.ErrOrder},
		{"uses of a moment", uses(use("a", "r", 5, 1, 0), use("b", "r", 5, 1, 0), use("B", "r", 6, 1, 0)), api.OK},
		{"an order ahead of the next name", uses(use("b", "r", 5, 1, 0), use("a", "r", 5, 1, 0), use("", "r", 5, 1, 0)), api.ErrOrder},
		{"uses one in another", uses(use("a", "r", 5, 100, 0), use("b", "r", 6, 1, 0)), api.OK},
		{"a use beyond the last moment", uses(use("a", "r", last, 1_000_000, 0)), api.OK},
	} {
		want(t, c.what, told(gear.Check(c.g)), told(c.want))
	}
}

// asked is something that can be wrong, with its error.
type asked struct {
	wrong bool
	e     api.Errno
}

func noName(s string) bool {
	return len(s) < 1 || len(s) > 60 || strings.Trim(s, "abcdefghijklmnopqrstuvwxyzABCDEFGHIJKLMNOPQRSTUVWXYZ0123456789-_.") != ""
}

func outOf(n, low, high int) bool { return n < low || n > high }

func askedOfMounts(g api.Garage) (l []asked) {
	for i, m := range g.Mounts {
		l = append(l, asked{!hasSlot(g, m.Slot), api.ErrNone}, asked{!hasPart(g, m.Part), api.ErrNone},
			asked{outOf(m.From, 0, last), api.ErrRange}, asked{m.To != -1 && outOf(m.To, 0, last), api.ErrRange},
			asked{m.To != -1 && m.To <= m.From, api.ErrOrder})
		if i > 0 {
			before := g.Mounts[i-1]
			l = append(l, asked{m.From < before.From || m.From == before.From && m.Slot <= before.Slot, api.ErrOrder})
		}
	}
	for i, m := range g.Mounts {
		for _, x := range g.Mounts[:i] {
			l = append(l, asked{collide(m, x), api.ErrState})
		}
	}
	return l
}

// askedOf has all that Check asks, in the order of the document's words.
func askedOf(g api.Garage) []asked {
	l := []asked{{len(g.Parts) > 500, api.ErrSize}, {len(g.Slots) > 100, api.ErrSize}, {len(g.Mounts) > 2000, api.ErrSize}, {len(g.Uses) > 5000, api.ErrSize}}
	for i, x := range g.Parts {
		l = append(l, asked{noName(x.Name), api.ErrName}, asked{i > 0 && x.Name <= g.Parts[max(i-1, 0)].Name, api.ErrOrder}, asked{outOf(x.Cost, 0, 1_000_000_000), api.ErrRange})
	}
	for i, x := range g.Slots {
		l = append(l, asked{noName(x.Name), api.ErrName}, asked{i > 0 && x.Name <= g.Slots[max(i-1, 0)].Name, api.ErrOrder}, asked{noName(x.Rig), api.ErrName})
	}
	l = append(l, askedOfMounts(g)...)
	for i, u := range g.Uses {
		isNamed := func(x api.Use) bool { return x.Name == u.Name }
		l = append(l, asked{noName(u.Name), api.ErrName}, asked{noName(u.Rig), api.ErrName}, asked{slices.ContainsFunc(g.Uses[:i], isNamed), api.ErrTwice},
			asked{outOf(u.From, 0, last), api.ErrRange}, asked{outOf(u.Seconds, 1, 1_000_000), api.ErrRange}, asked{outOf(u.Way, 0, 1_000_000_000), api.ErrRange})
		if i > 0 {
			before := g.Uses[i-1]
			l = append(l, asked{u.From < before.From || u.From == before.From && u.Name <= before.Name, api.ErrOrder})
		}
	}
	return l
}

func slowCheck(g api.Garage) api.Errno {
	for _, x := range askedOf(g) {
		if x.wrong {
			return x.e
		}
	}
	return api.OK
}

// spoil changes something of a garage.
func spoil(r *rand.Rand, g *api.Garage, base int) {
	n := one(r, -1, -2, 0, 1, base, base+r.Intn(span), 1_000_000, 1_000_001, 1_000_000_000, 1_000_000_001, last, last+1, math.MinInt, math.MaxInt)
	name := one(r, "", "a", "b", "-", "rear", "u", "none", "a b", "ü", strings.Repeat("x", 61))
	switch {
	case r.Intn(6) == 0 && len(g.Parts) > 0:
		x := &g.Parts[r.Intn(len(g.Parts))]
		*x = one(r, part(name, x.Cost), part(x.Name, n), g.Parts[0])
	case r.Intn(5) == 0 && len(g.Slots) > 0:
		x := &g.Slots[r.Intn(len(g.Slots))]
		*x = one(r, slot(name, x.Rig), slot(x.Name, name), g.Slots[0])
	case r.Intn(2) == 0 && len(g.Mounts) > 0:
		x := &g.Mounts[r.Intn(len(g.Mounts))]
		*x = one(r, mount(name, x.Part, x.From, x.To), mount(x.Slot, name, x.From, x.To), mount(x.Slot, x.Part, n, x.To), mount(x.Slot, x.Part, x.From, n), mount(x.Slot, x.Part, x.From, -1), g.Mounts[0])
	case len(g.Uses) > 0:
		x := &g.Uses[r.Intn(len(g.Uses))]
		*x = one(r, use(name, x.Rig, x.From, x.Seconds, x.Way), use(x.Name, name, x.From, x.Seconds, x.Way), use(x.Name, x.Rig, n, x.Seconds, x.Way), use(x.Name, x.Rig, x.From, n, x.Way), use(x.Name, x.Rig, x.From, x.Seconds, n), g.Uses[0])
	}
}

func TestI1CheckWords(t *testing.T) {
	r := rand.New(rand.NewSource(91))
	seen := map[api.Errno]int{}
	for range 60000 {
		g, base := randomGarage(r)
		if e := gear.Check(g); e != api.OK {
			t.Fatal("a garage that is right: ", g, e)
		}
		for range 1 + r.Intn(3) {
			spoil(r, &g, base)
		}
		e := gear.Check(g)
		seen[e]++
		want(t, fmt.Sprint(g), told(e), told(slowCheck(g)))
	}
	for _, e := range []api.Errno{api.OK, api.ErrNone, api.ErrTwice, api.ErrName, api.ErrRange, api.ErrOrder, api.ErrState} {
		if seen[e] < 500 {
			t.Error("not often: ", e, seen[e])
		}
	}
}
