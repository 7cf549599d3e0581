package gear_test

import (
	"fmt"
	"math"
	"math/rand"
	"slices"
	"testing"

	"harrier/api"
	"harrier/gear"
)

func care(slot string, way, days int) api.Care { return api.Care{Slot: slot, Way: way, Days: days} }

func service(part string, at int) api.Service { return api.Service{Part: part, At: at} }

const day = api.DayLong

func TestI5Dues(t *testing.T) {
	g := withUses(bikes(mount("rear", "b", 50, -1), mount("front", "a", 100, 10*day), mount("front", "c", 10*day, -1), mount("seat", "a", 10*day, -1)),
		use("u", "bike", 100, 10, 100), use("v", "bike", 2*day, 10, 200), use("w", "bike", 3*day, 10, 400), use("x", "tandem", 11*day, 10, 800))
	front := []api.Care{care("front", 1000, 5)}
	for _, c := range []struct {
		what  string
		plans []api.Care
		done  []api.Service
		at    int
		want  string
	}{
		{"no plans", nil, nil, 5 * day, "[] 0"},
		{"before anything", front, nil, 99, "[] 0"},
		{"just mounted", front, nil, 100, "[{a front 0 1000 5}] 0"},
		{"just used", front, nil, 101, "[{a front 0 900 5}] 0"},
		{"a second ahead of a day", front, nil, 100 + day - 1, "[{a front 0 900 5}] 0"},
		{"a day", front, nil, 100 + day, "[{a front 0 900 4}] 0"},
		{"a use that begins then", front, nil, 2 * day, "[{a front 0 900 4}] 0"},
		{"a use that began", front, nil, 2*day + 1, "[{a front 0 700 4}] 0"},
		{"overdue", front, nil, 9*day + 100, "[{a front 0 300 -4}] 0"},
		{"another part, mounted then", front, nil, 10 * day, "[{c front 0 1000 5}] 0"},
		{"a part in another slot", []api.Care{care("seat", 500, 100)}, nil, 12 * day, "[{a seat 0 -1000 89}] 0"},
		{"service", front, []api.Service{service("a", 2*day)}, 4 * day, "[{a front 0 400 3}] 0"},
		{"service just behind a use", front, []api.Service{service("a", 2*day+1)}, 4 * day, "[{a front 0 600 4}] 0"},
		{"service just then", front, []api.Service{service("a", 4*day)}, 4 * day, "[{a front 0 1000 5}] 0"},
		{"service later", front, []api.Service{service("a", 4*day+1)}, 4 * day, "[{a front 0 300 2}] 0"},
		{"service of another part", front, []api.Service{service("b", 4*day)}, 4 * day, "[{a front 0 300 2}] 0"},
		{"the latest service of several", front, []api.Service{service("a", 2*day), service("a", 3*day+1), service("b", 0), service("a", 5*day), service("a", day)}, 4 * day, "[{a front 0 1000 5}] 0"},
		{"service ahead of its first mount", front, []api.Service{service("a", 0)}, day + 99, "[{a front 0 900 4}] 0"},
		{"service at 0, a day ago", front, []api.Service{service("a", 0)}, day, "[{a front 0 900 4}] 0"},
		{"service in another slot", []api.Care{care("seat", 500, 100)}, []api.Service{service("a", 3*day)}, 12 * day, "[{a seat 0 -700 91}] 0"},
		{"no days", []api.Care{care("front", 1, 0)}, nil, 9 * day, "[{a front 0 -699 0}] 0"},
		{"no way", []api.Care{care("front", 0, 1)}, nil, 9 * day, "[{a front 0 0 -7}] 0"},
		{"the most", []api.Care{care("front", 1_000_000_000, 999_999)}, nil, last, "[{c front 0 1000000000 10}] 0"},
		{"slots, then plans", []api.Care{care("seat", 1, 0), care("rear", 0, 9), care("front", 800, 0), care("rear", 800, 0), care("front", 0, 9)}, nil, 10*day - 1, "[{a front 2 100 0} {a front 4 0 0} {b rear 1 0 0} {b rear 3 100 0}] 0"},
	} {
		want(t, c.what, told(gear.Dues(g, c.plans, c.done, c.at)), c.want)
	}
}

// TestI5Begins has a use that begins before a part is mounted, and goes on behind that.
func TestI5Begins(t *testing.T) {
	g := withUses(bikes(mount("seat", "a", 0, 1000), mount("seat", "b", 1000, -1)), use("u", "tandem", 900, 200, 1000))
	plans := []api.Care{care("seat", 3000, 0)}
	want(t, "the part before", told(gear.Dues(g, plans, nil, 999)), "[{a seat 0 2500 0}] 0")
	want(t, "the part behind", told(gear.Dues(g, plans, nil, 2000)), "[{b seat 0 3000 0}] 0")
	want(t, "the part behind, with service before", told(gear.Dues(g, plans, []api.Service{service("b", 900)}, 2000)), "[{b seat 0 2500 0}] 0")
}

func TestI5Errors(t *testing.T) {
	g := bikes(mount("front", "a", 0, -1))
	plan, all := care("front", 1, 1), []api.Care{care("front", 1, 0), care("rear", 0, 1)}
	many, long := slices.Repeat([]api.Care{plan}, 200), slices.Repeat([]api.Service{service("a", 0)}, 5000)
	for _, c := range []struct {
		what  string
		plans []api.Care
		done  []api.Service
		at    int
		want  string
	}{
		{"201 plans", slices.Repeat([]api.Care{care("", -1, -1)}, 201), nil, -1, "[] 3"},
		{"no slot", []api.Care{plan, care("a", -1, -1)}, nil, -1, "[] 4"},
		{"Way -1", []api.Care{care("rear", -1, 0)}, nil, -1, "[] 9"},
		{"Way beyond", []api.Care{care("rear", 1_000_000_001, 0)}, nil, 0, "[] 9"},
		{"Days -1", []api.Care{care("rear", 0, -1)}, nil, 0, "[] 9"},
		{"Days beyond", []api.Care{care("rear", 0, 1_000_000)}, nil, 0, "[] 9"},
		{"least numbers", []api.Care{care("rear", math.MinInt, math.MinInt)}, nil, 0, "[] 9"},
		{"greatest numbers", []api.Care{care("rear", math.MaxInt, math.MaxInt)}, nil, 0, "[] 9"},
		{"no way and no days", []api.Care{care("rear", 0, 0)}, nil, -1, "[] 13"},
		{"no way and no days ahead of no slot", []api.Care{care("rear", 0, 0), care("a", 1, 1)}, nil, -1, "[] 13"},
		{"a wrong plan ahead of too many done", []api.Care{care("rear", 0, 0)}, make([]api.Service, 5001), -1, "[] 13"},
		{"5001 done", all, make([]api.Service, 5001), -1, "[] 3"},
		{"no part", all, []api.Service{service("front", -1)}, -1, "[] 4"},
		{"no part, but later", all, []api.Service{service("a", -1), service("front", 0)}, -1, "[] 9"},
		{"service before all", all, []api.Service{service("a", -1)}, 0, "[] 9"},
		{"service after all", all, []api.Service{service("a", last+1)}, 0, "[] 9"},
		{"a wrong moment", all, []api.Service{service("a", 0)}, -1, "[] 9"},
		{"a moment beyond", nil, nil, last + 1, "[] 9"},
		{"a part that is nowhere", all, []api.Service{service("c", last)}, 0, "[{a front 0 1 0}] 0"},
	} {
		want(t, c.what, told(gear.Dues(g, c.plans, c.done, c.at)), c.want)
	}
	l, e := gear.Dues(g, many, long, last)
	want(t, "as much as can be", told(len(l), l[199], e), "200 {a front 199 1 -999998} 0")
}

// slowDues follows the words of the document.
func slowDues(g api.Garage, plans []api.Care, done []api.Service, at int) (l []api.Due) {
	for _, s := range g.Slots {
		part := slowPart(g, s.Name, at)
		if part == "" {
			continue
		}
		since := -1
		for _, x := range done {
			if x.Part == part && x.At <= at && x.At > since {
				since = x.At
			}
		}
		if since == -1 {
			since = g.Mounts[slices.IndexFunc(g.Mounts, func(m api.Mount) bool { return m.Part == part })].From
		}
		way := slowWear(g, part, func(u api.Use) bool { return since <= u.From && u.From < at }).Way
		for i, p := range plans {
			if p.Slot != s.Name {
				continue
			}
			due := api.Due{Part: part, Slot: s.Name, Plan: i}
			if p.Way != 0 {
				due.Way = p.Way - way
			}
			if p.Days != 0 {
				due.Days = p.Days - int(math.Floor(float64(at-since)/86400))
			}
			l = append(l, due)
		}
	}
	return l
}

func TestI5DuesMany(t *testing.T) {
	r := rand.New(rand.NewSource(100))
	dues := 0
	for range 6000 {
		g, base := randomGarage(r)
		var plans []api.Care
		var done []api.Service
		for range r.Intn(6) {
			if len(g.Slots) > 0 {
				plans = append(plans, one(r, care(one(r, g.Slots...).Name, 1+r.Intn(100), 0), care(one(r, g.Slots...).Name, 0, 1+r.Intn(3)), care(one(r, g.Slots...).Name, 30, 2)))
			}
		}
		for range r.Intn(5) {
			if len(g.Parts) > 0 {
				done = append(done, service(one(r, g.Parts...).Name, one(r, moment(r, base), max(moment(r, base)-2*day, 0))))
			}
		}
		at := one(r, moment(r, base), min(moment(r, base)+day, last))
		got, e := gear.Dues(g, plans, done, at)
		if len(got) > 1 {
			dues++
		}
		want(t, fmt.Sprint(g, plans, done, at), told(got, e), told(slowDues(g, plans, done, at), 0))
	}
	if dues < 1000 {
		t.Error("not often told: ", dues)
	}
}
