package gear_test

import (
	"cmp"
	"fmt"
	"math/rand"
	"reflect"
	"slices"
	"strings"
	"testing"

	"harrier/api"
	"harrier/gear"
)

// told writes results with spaces between; codes of errors as numbers.
func told(l ...any) string {
	for i, x := range l {
		if e, ok := x.(api.Errno); ok {
			l[i] = int(e)
		}
	}
	return strings.TrimSuffix(fmt.Sprintln(l...), "\n")
}

func want(t *testing.T, what, got, wanted string) {
	t.Helper()
	if got != wanted {
		t.Errorf("%s: got %q, want %q", what, got, wanted)
	}
}

const last = api.MaxMoment

func part(name string, cost int) api.GearPart { return api.GearPart{Name: name, Cost: cost} }

func slot(name, rig string) api.Slot { return api.Slot{Name: name, Rig: rig} }

func mount(slot, part string, from, to int) api.Mount {
	return api.Mount{Slot: slot, Part: part, From: from, To: to}
}

func use(name, rig string, from, seconds, way int) api.Use {
	return api.Use{Name: name, Rig: rig, From: from, Seconds: seconds, Way: way}
}

// bikes has the parts a, b and c, the slots front and rear of the rig bike, and seat of the rig tandem.
func bikes(l ...api.Mount) api.Garage {
	return api.Garage{
		Parts:  []api.GearPart{part("a", 100), part("b", 50), part("c", 0)},
		Slots:  []api.Slot{slot("front", "bike"), slot("rear", "bike"), slot("seat", "tandem")},
		Mounts: l,
	}
}

func withUses(g api.Garage, l ...api.Use) api.Garage {
	g.Uses = l
	return g
}

// slowEnd has moments up to a use of the last one of all.
func slowEnd(m api.Mount) int {
	if m.To == -1 {
		return last + api.MaxSpan + 1
	}
	return m.To
}

// slowMount returns the number of the mount that a slot has at a moment, or -1.
func slowMount(g api.Garage, slot string, at int) int {
	for i, m := range g.Mounts {
		if m.Slot == slot && m.From <= at && at < slowEnd(m) {
			return i
		}
	}
	return -1
}

// slowPart returns the part that a slot has at a moment, or nothing.
func slowPart(g api.Garage, slot string, at int) string {
	if i := slowMount(g, slot, at); i >= 0 {
		return g.Mounts[i].Part
	}
	return ""
}

func collide(x, y api.Mount) bool {
	return (x.Slot == y.Slot || x.Part == y.Part) && max(x.From, y.From) < min(slowEnd(x), slowEnd(y))
}

func sortMounts(l []api.Mount) {
	slices.SortFunc(l, func(x, y api.Mount) int { return cmp.Or(cmp.Compare(x.From, y.From), cmp.Compare(x.Slot, y.Slot)) })
}

func sortUses(l []api.Use) {
	slices.SortFunc(l, func(x, y api.Use) int { return cmp.Or(cmp.Compare(x.From, y.From), cmp.Compare(x.Name, y.Name)) })
}

// some takes some names out of a list, in their order.
func some(r *rand.Rand, l ...string) (taken []string) {
	for _, x := range l {
		if r.Intn(4) > 0 {
			taken = append(taken, x)
		}
	}
	return taken
}

func one[T any](r *rand.Rand, l ...T) T { return l[r.Intn(len(l))] }

// span is how many moments behind the first one a random garage has mounts and uses at.
const span = 40

// randomGarage makes a garage with mounts and uses near a moment, which is returned, too.
func randomGarage(r *rand.Rand) (g api.Garage, base int) {
	base = one(r, 0, 0, 86380, last-span, last-10)
	for _, name := range some(r, "-", "A1", "a", "b", "part") {
		g.Parts = append(g.Parts, part(name, one(r, 0, 1, 99, gear.MaxCost)))
	}
	for _, name := range some(r, "-", "a", "rear", "slot", "use") {
		g.Slots = append(g.Slots, slot(name, one(r, "bike", "bike", "shoes")))
	}
	for range r.Intn(12) {
		if len(g.Parts) == 0 || len(g.Slots) == 0 {
			break
		}
		from := min(base+r.Intn(span), last)
		m := mount(one(r, g.Slots...).Name, one(r, g.Parts...).Name, from, -1)
		if from < last && r.Intn(3) > 0 {
			m.To = min(from+1+r.Intn(15), last)
		}
		if !slices.ContainsFunc(g.Mounts, func(x api.Mount) bool { return collide(m, x) }) {
			g.Mounts = append(g.Mounts, m)
		}
	}
	for _, name := range some(r, "u", "run", "-", "Z", "a.b", "ride") {
		u := use(name, one(r, "bike", "shoes", "bike", "boat"), min(base+r.Intn(span), last), 1+r.Intn(span), r.Intn(1+r.Intn(60)))
		if r.Intn(8) == 0 {
			u.Way = 1_000_000_000 - r.Intn(2)
		}
		g.Uses = append(g.Uses, u)
	}
	sortMounts(g.Mounts)
	sortUses(g.Uses)
	return g, base
}

func moment(r *rand.Rand, base int) int { return min(base+r.Intn(span+5), last) }

func anySlot(r *rand.Rand, g api.Garage) string {
	if len(g.Slots) == 0 || r.Intn(20) == 0 {
		return "none"
	}
	return one(r, g.Slots...).Name
}

func anyPart(r *rand.Rand, g api.Garage) string {
	if len(g.Parts) == 0 || r.Intn(20) == 0 {
		return "none"
	}
	return one(r, g.Parts...).Name
}

func hasPart(g api.Garage, name string) bool {
	return slices.ContainsFunc(g.Parts, func(x api.GearPart) bool { return x.Name == name })
}

func hasSlot(g api.Garage, name string) bool {
	return slices.ContainsFunc(g.Slots, func(x api.Slot) bool { return x.Name == name })
}

// given has arguments, with room behind their elements.
type given struct {
	g     api.Garage
	u     api.Use
	plans []api.Care
	done  []api.Service
	slots []string
}

func newGiven() *given {
	g := withUses(bikes(mount("front", "a", 0, -1), mount("rear", "b", 5, 90), mount("rear", "b", 90, -1)), use("x", "bike", 10, 100, 1001), use("y", "tandem", 50, 9, 10))
	g.Parts, g.Slots, g.Mounts, g.Uses = roomy(g.Parts), roomy(g.Slots), roomy(g.Mounts), roomy(g.Uses)
	return &given{g, use("z", "bike", 20, 5, 7), roomy([]api.Care{{Slot: "rear", Way: 500}, {Slot: "front", Days: 3}}), roomy([]api.Service{{Part: "b", At: 7}}), roomy([]string{"rear", "front"})}
}

func roomy[T any](l []T) []T { return append(make([]T, 0, len(l)+9), l...) }

func all[T any](l []T) []T { return l[:cap(l)] }

func wholeGarage(g api.Garage) api.Garage {
	return api.Garage{Parts: all(g.Parts), Slots: all(g.Slots), Mounts: all(g.Mounts), Uses: all(g.Uses)}
}

// whole has the lists as long as their capacity is.
func (x *given) whole() given {
	return given{wholeGarage(x.g), x.u, all(x.plans), all(x.done), all(x.slots)}
}

// answers has what all functions answer to arguments, by their names.
func (x *given) answers(slot, part, name string, at, from, to, most int) map[string][]any {
	two := func(x any, e api.Errno) []any { return []any{x, e} }
	three := func(x, y any, e api.Errno) []any { return []any{x, y, e} }
	in, ok, e := gear.In(x.g, slot, at)
	return map[string][]any{
		"Check":  {gear.Check(x.g)},
		"Put":    two(gear.Put(x.g, slot, part, at)),
		"Take":   two(gear.Take(x.g, slot, at)),
		"In":     three(in, ok, e),
		"Add":    two(gear.Add(x.g, x.u)),
		"Drop":   two(gear.Drop(x.g, name)),
		"Pieces": two(gear.Pieces(x.g)),
		"WearOf": two(gear.WearOf(x.g, part, from, to)),
		"Total":  two(gear.Total(x.g, name)),
		"Dues":   two(gear.Dues(x.g, x.plans, x.done, at)),
		"Rate":   two(gear.Rate(x.g, part)),
		"Swaps":  two(gear.Swaps(x.g, x.slots, most)),
		"Print":  two(gear.Print(x.g)),
	}
}

// allRight has arguments with which no function has an error or nothing to tell.
func (x *given) allRight() map[string][]any {
	l := x.answers("rear", "a", "x", 100, 0, 50, 3)
	total, e := gear.Total(x.g, "bike")
	l["Total"] = []any{total, e}
	text, _ := gear.Print(x.g)
	g, _, e := gear.Read(text)
	l["Read"] = []any{g, e}
	return l
}

// TestI1OwnMemory asks whether arguments stay as they are, and whether results have memory of their own (Z2).
func TestI1OwnMemory(t *testing.T) {
	x, y := newGiven(), newGiven()
	first := x.allRight()
	known := map[string]string{}
	for name, l := range first {
		known[name] = fmt.Sprint(l...)
		if l[len(l)-1] != api.OK || len(l) > 1 && reflect.ValueOf(l[0]).IsZero() {
			t.Errorf("%s: nothing comes of it: %v", name, l)
		}
	}
	for _, l := range x.allRight() {
		for _, result := range l {
			v := reflect.New(reflect.TypeOf(result)).Elem()
			v.Set(reflect.ValueOf(result))
			scribble(v)
		}
	}
	if !reflect.DeepEqual(x.whole(), y.whole()) {
		t.Errorf("the arguments are others: %v", x.whole())
	}
	for name, l := range first {
		want(t, name+" once more", fmt.Sprint(l...), known[name])
	}
}

// scribble writes over all memory that the lists of a value have, also over their unused capacity.
func scribble(v reflect.Value) {
	switch v.Kind() {
	case reflect.Struct:
		for i := range v.NumField() {
			scribble(v.Field(i))
		}
	case reflect.Slice:
		v = v.Slice3(0, v.Cap(), v.Cap())
		for i := range v.Len() {
			v.Index(i).SetZero()
		}
	}
}

// wantError asks whether functions return an error, and all else as zero (Z3).
func wantError(t *testing.T, what string, l map[string][]any, e api.Errno, names ...string) {
	t.Helper()
	for _, name := range names {
		x := l[name]
		want(t, what+", "+name, told(x[len(x)-1]), told(e))
		for _, result := range x[:len(x)-1] {
			if !reflect.ValueOf(result).IsZero() {
				t.Errorf("%s, %s: %v", what, name, x)
			}
		}
	}
}

// TestI1First asks whether the functions return Check's error ahead of their own.
func TestI1First(t *testing.T) {
	x := newGiven()
	x.g.Mounts[1].From = -1
	names := []string{"Check", "Put", "Take", "In", "Add", "Drop", "Pieces", "WearOf", "Total", "Dues", "Rate", "Swaps", "Print"}
	wantError(t, "a wrong mount, all else right", x.answers("rear", "a", "x", 100, 0, 50, 3), api.ErrRange, names...)
	x.u, x.plans, x.done, x.slots = api.Use{}, make([]api.Care, 300), make([]api.Service, 6000), make([]string, 30)
	wantError(t, "a wrong mount, all else wrong", x.answers("", "", "", -1, -1, -2, -1), api.ErrRange, names...)
}

func TestI2Errors(t *testing.T) {
	x := newGiven()
	wantError(t, "no slot, no moment", x.answers("none", "none", "none", -1, 0, 0, 0), api.ErrNone, "Put", "Take", "In", "Drop", "WearOf", "Rate")
	wantError(t, "no slot, but a part", x.answers("a", "a", "front", 5, 0, 0, 0), api.ErrNone, "Put", "Take", "In", "Drop")
	wantError(t, "no part, but a slot", x.answers("front", "front", "a", last+1, 0, 0, 0), api.ErrNone, "Put", "Drop", "WearOf", "Rate")
	wantError(t, "empty names", x.answers("", "", "", 5, 0, 0, 0), api.ErrNone, "Put", "Take", "In", "Drop", "WearOf", "Rate")
	for _, at := range []int{-1, last + 1, -1 << 63, 1<<63 - 1} {
		wantError(t, fmt.Sprint("no moment ", at), x.answers("front", "a", "x", at, at, at, 0), api.ErrRange, "Put", "Take", "In", "WearOf", "Dues")
		wantError(t, fmt.Sprint("from no moment ", at), x.answers("front", "a", "x", 0, at, 0, 0), api.ErrRange, "WearOf")
		wantError(t, fmt.Sprint("to no moment ", at), x.answers("front", "a", "x", 0, 50, at, 0), api.ErrRange, "WearOf")
	}
	wantError(t, "the part is there", x.answers("front", "a", "x", 10, 0, 0, 0), api.ErrTwice, "Put")
	wantError(t, "nothing is there", x.answers("seat", "a", "x", 10, 0, 0, 0), api.ErrEmpty, "Take")
	wantError(t, "nothing is there yet", x.answers("rear", "a", "x", 4, 0, 0, 0), api.ErrEmpty, "Take")
	want(t, "In, with nothing there", fmt.Sprint(x.answers("rear", "a", "x", 4, 0, 0, 0)["In"]), "[ false 0]")
	wantError(t, "to is below from", x.answers("front", "a", "x", 10, 10, 9, 0), api.ErrOrder, "WearOf")
	wantError(t, "no rig's name", x.answers("front", "a", "a b", 10, 0, 0, 0), api.ErrName, "Total")
}
