package gear_test

import (
	"cmp"
	"fmt"
	"math/rand"
	"slices"
	"strings"
	"testing"

	"harrier/api"
	"harrier/gear"
)

// worn has slots and parts, each slot on a rig of its own: the part that is in the slot i has worn[i], and the slot as much more as uses[i], which were before it had a part.
func worn(parts []string, worn, uses []int) (g api.Garage, slots []string) {
	for i, name := range parts {
		slots = append(slots, fmt.Sprintf("s%02d", i))
		g.Parts = append(g.Parts, part(name, 0))
		g.Slots = append(g.Slots, slot(slots[i], slots[i]))
		g.Mounts = append(g.Mounts, mount(slots[i], name, 10, -1))
		g.Uses = append(g.Uses, use(fmt.Sprint("a", i), slots[i], 0, 10, uses[i]), use(fmt.Sprint("b", i), slots[i], 10, 10, worn[i]))
	}
	slices.SortFunc(g.Parts, func(x, y api.GearPart) int { return strings.Compare(x.Name, y.Name) })
	sortUses(g.Uses)
	return g, slots
}

func TestI6Swaps(t *testing.T) {
	for _, c := range []struct {
		what       string
		parts      []string
		worn, uses []int
		most       int
		want       string
	}{
		{"none", nil, nil, nil, 5, "[] 0"},
		{"one", []string{"a"}, []int{5}, []int{5}, 5, "[] 0"},
		{"the least in the greatest", []string{"a", "b"}, []int{1, 2}, []int{9, 1}, 5, "[] 0"},
		{"the least in the least", []string{"a", "b"}, []int{1, 2}, []int{1, 9}, 5, "[[s00 s01]] 0"},
		{"equal parts by their names", []string{"b", "a"}, []int{2, 2}, []int{9, 1}, 5, "[[s00 s01]] 0"},
		{"equal parts by their names, as they are", []string{"a", "b"}, []int{2, 2}, []int{9, 1}, 5, "[] 0"},
		{"equal slots", []string{"a", "b"}, []int{1, 5}, []int{5, 1}, 5, "[] 0"},
		{"equal slots, not so", []string{"a", "b"}, []int{5, 1}, []int{1, 5}, 5, "[[s00 s01]] 0"},
		{"all equal", []string{"b", "c", "a"}, []int{5, 5, 5}, []int{0, 0, 0}, 5, "[[s00 s01] [s00 s02]] 0"},
		{"a ring the other way", []string{"c", "a", "b"}, []int{5, 5, 5}, []int{0, 0, 0}, 5, "[[s00 s01] [s01 s02]] 0"},
		{"the beginning", []string{"c", "a", "b"}, []int{5, 5, 5}, []int{0, 0, 0}, 1, "[[s00 s01]] 0"},
		{"nothing of it", []string{"c", "a", "b"}, []int{5, 5, 5}, []int{0, 0, 0}, 0, "[] 0"},
		{"as many as are wanted", []string{"c", "a", "b"}, []int{5, 5, 5}, []int{0, 0, 0}, 2, "[[s00 s01] [s01 s02]] 0"},
		{"two rings", []string{"d", "c", "b", "a"}, []int{5, 5, 5, 5}, []int{0, 0, 0, 0}, 100, "[[s00 s03] [s01 s02]] 0"},
		{"two rings, by turns", []string{"c", "d", "a", "b"}, []int{5, 5, 5, 5}, []int{0, 0, 0, 0}, 100, "[[s00 s02] [s01 s03]] 0"},
		{"a ring of four", []string{"b", "d", "a", "c"}, []int{5, 5, 5, 5}, []int{0, 0, 0, 0}, 100, "[[s00 s01] [s00 s02] [s02 s03]] 0"},
		{"one stays", []string{"c", "b", "a"}, []int{5, 5, 5}, []int{0, 0, 0}, 9, "[[s00 s02]] 0"},
	} {
		g, slots := worn(c.parts, c.worn, c.uses)
		want(t, c.what, told(gear.Swaps(g, slots, c.most)), c.want)
	}
	// The order of the slots tells which of two swaps is the lesser one, and which slot of a swap comes first.
	g, slots := worn([]string{"b", "a", "c"}, []int{5, 5, 5}, []int{0, 0, 0})
	want(t, "slots as they stand", told(gear.Swaps(g, slots, 5)), "[[s00 s01]] 0")
	want(t, "slots backwards", told(gear.Swaps(g, []string{"s02", "s01", "s00"}, 5)), "[[s02 s01] [s01 s00]] 0")
	want(t, "some slots", told(gear.Swaps(g, []string{"s02", "s00"}, 5)), "[[s02 s00]] 0")
}

// TestI6Wear has a part whose way comes from elsewhere, too, and slots whose way is that of their rig.
func TestI6Wear(t *testing.T) {
	g := withUses(bikes(mount("seat", "a", 0, 10), mount("front", "b", 5, -1), mount("rear", "a", 10, -1), mount("seat", "c", 20, -1)),
		use("u", "tandem", 0, 10, 500), use("v", "bike", 10, 10, 100), use("w", "tandem", 20, 10, 90))
	// a has worn 600, b 100, c 90; front and rear have 100, seat 590.
	want(t, "two slots", told(gear.Swaps(g, []string{"front", "rear"}, 5)), "[] 0")
	want(t, "two slots, backwards", told(gear.Swaps(g, []string{"rear", "front"}, 5)), "[[rear front]] 0")
	want(t, "three slots", told(gear.Swaps(g, []string{"rear", "front", "seat"}, 5)), "[[rear front]] 0")
	g.Uses[2].Way = 101
	want(t, "b is least", told(gear.Swaps(g, []string{"front", "rear", "seat"}, 5)), "[[front seat]] 0")
	g.Uses[2] = use("w", "tandem", last, 10, 101)
	want(t, "at the last moment", told(gear.Swaps(g, []string{"front", "rear", "seat"}, 5)), "[[front seat]] 0")
	g.Mounts[3].To = last
	want(t, "not at the last moment", told(gear.Swaps(g, []string{"front", "rear", "seat"}, 5)), "[] 13")
}

func TestI6Errors(t *testing.T) {
	g, slots := worn(strings.Split("a b c d e f g h i j k l m n o p q r s t u", " "), slices.Repeat([]int{1}, 21), make([]int, 21))
	empty := bikes(mount("front", "a", 0, -1))
	for _, c := range []struct {
		what  string
		g     api.Garage
		slots []string
		most  int
		want  string
	}{
		{"20 slots", g, slots[:20], 100, "[] 0"},
		{"21 slots", g, slots, -1, "[] 3"},
		{"21 wrong slots", g, make([]string, 21), -1, "[] 3"},
		{"no slot", g, []string{"s01", "a"}, -1, "[] 4"},
		{"no slot, twice", g, []string{"s01", "a", "a"}, -1, "[] 4"},
		{"a slot twice", g, []string{"s01", "s02", "s01"}, -1, "[] 5"},
		{"a slot twice ahead of none", g, []string{"s01", "s01", "a"}, -1, "[] 5"},
		{"an empty slot", empty, []string{"front", "rear"}, -1, "[] 13"},
		{"an empty slot, twice", empty, []string{"rear", "rear"}, -1, "[] 13"},
		{"an empty slot ahead of none", empty, []string{"rear", "a"}, -1, "[] 13"},
		{"most -1", g, slots[:3], -1, "[] 9"},
		{"most 101", g, slots[:3], 101, "[] 9"},
		{"most 101, without slots", empty, nil, 101, "[] 9"},
	} {
		want(t, c.what, told(gear.Swaps(c.g, c.slots, c.most)), c.want)
	}
}

// slowSwaps tries all lists of swaps, shorter ones first, of equally long ones the lesser ones first.
func slowSwaps(now, wanted []string) [][2]int {
	for long := 0; ; long++ {
		if l, ok := swapsOf(now, wanted, long); ok {
			return l
		}
	}
}

func swapsOf(now, wanted []string, long int) ([][2]int, bool) {
	if long == 0 {
		return nil, slices.Equal(now, wanted)
	}
	for i := range now {
		for j := i + 1; j < len(now); j++ {
			next := slices.Clone(now)
			next[i], next[j] = now[j], now[i]
			if l, ok := swapsOf(next, wanted, long-1); ok {
				return append([][2]int{{i, j}}, l...), true
			}
		}
	}
	return nil, false
}

// wantedParts says what part is wanted in each of some slots.
func wantedParts(g api.Garage, slots []string) []string {
	partWay := func(name string) int { return slowWear(g, name, func(api.Use) bool { return true }).Way }
	slotWay := func(name string) (way int) {
		for _, p := range slowAllPieces(g) {
			if p.Slot == name {
				way += p.Way
			}
		}
		return way
	}
	var parts []string
	for _, s := range slots {
		parts = append(parts, slowPart(g, s, last))
	}
	slices.SortFunc(parts, func(x, y string) int { return cmp.Or(cmp.Compare(partWay(x), partWay(y)), cmp.Compare(x, y)) })
	order := slices.Clone(slots)
	slices.SortStableFunc(order, func(x, y string) int { return cmp.Compare(slotWay(y), slotWay(x)) })
	wanted := make([]string, len(slots))
	for k, s := range order {
		wanted[slices.Index(slots, s)] = parts[k]
	}
	return wanted
}

func TestI6SwapsMany(t *testing.T) {
	r := rand.New(rand.NewSource(101))
	seen := map[int]int{}
	for range 3000 {
		g, _ := randomGarage(r)
		var slots, now []string
		for _, i := range r.Perm(len(g.Slots)) {
			if name := g.Slots[i].Name; slowPart(g, name, last) != "" {
				slots = append(slots, name)
				now = append(now, slowPart(g, name, last))
			}
		}
		most := one(r, 100, 100, 1, 2)
		l := slowSwaps(now, wantedParts(g, slots))
		seen[len(l)]++
		var named [][2]string
		for _, s := range l[:min(most, len(l))] {
			named = append(named, [2]string{slots[s[0]], slots[s[1]]})
		}
		want(t, fmt.Sprint(g, slots, most), told(gear.Swaps(g, slots, most)), told(named, 0))
	}
	for long := range 3 {
		if seen[long] < 50 {
			t.Error("not often: ", long, seen[long])
		}
	}
}

// TestI6Rings has all ways in which four or five parts can stand, and some of six.
func TestI6Rings(t *testing.T) {
	r := rand.New(rand.NewSource(102))
	for n, rounds := range map[int]int{4: 200, 5: 400, 6: 10} {
		for range rounds {
			parts := make([]string, n)
			for i, p := range r.Perm(n) {
				parts[i] = string(rune('a' + p))
			}
			g, slots := worn(parts, make([]int, n), make([]int, n))
			var named [][2]string
			for _, s := range slowSwaps(parts, slices.Sorted(slices.Values(parts))) {
				named = append(named, [2]string{slots[s[0]], slots[s[1]]})
			}
			want(t, fmt.Sprint(parts), told(gear.Swaps(g, slots, 100)), told(named, 0))
		}
	}
}
