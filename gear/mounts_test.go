package gear_test

import (
	"fmt"
	"math/rand"
	"slices"
	"testing"

	"harrier/api"
	"harrier/gear"
)

// mounts tells of the mounts of what Put and Take return.
func mounts(g api.Garage, e api.Errno) string { return told(g.Mounts, e) }

func TestI2Put(t *testing.T) {
	for _, c := range []struct {
		what       string
		g          api.Garage
		slot, part string
		at         int
		want       string
	}{
		{"the first one", bikes(), "front", "a", 0, "[{front a 0 -1}] 0"},
		{"at the last moment", bikes(), "front", "a", last, "[{front a 86399999999 -1}] 0"},
		{"ahead of another slot", bikes(mount("front", "a", 5, -1)), "rear", "b", 3, "[{rear b 3 -1} {front a 5 -1}] 0"},
		{"with another slot", bikes(mount("rear", "a", 5, -1)), "front", "b", 5, "[{front b 5 -1} {rear a 5 -1}] 0"},
		{"behind another slot", bikes(mount("front", "a", 5, -1)), "rear", "b", 5, "[{front a 5 -1} {rear b 5 -1}] 0"},
		{"in the place of another one", bikes(mount("front", "a", 5, -1)), "front", "b", 6, "[{front a 5 6} {front b 6 -1}] 0"},
		{"in the place of one that would end", bikes(mount("front", "a", 5, 20)), "front", "b", 6, "[{front a 5 6} {front b 6 -1}] 0"},
		{"where one ends just then", bikes(mount("front", "a", 5, 6)), "front", "b", 6, "[{front a 5 6} {front b 6 -1}] 0"},
		{"where one begins just then", bikes(mount("front", "a", 5, -1)), "front", "b", 5, "[{front b 5 -1}] 0"},
		{"where one begins just then, that would end", bikes(mount("front", "a", 5, 6)), "front", "b", 5, "[{front b 5 -1}] 0"},
		{"out of another slot", bikes(mount("front", "a", 5, -1)), "rear", "a", 9, "[{front a 5 9} {rear a 9 -1}] 0"},
		{"out of another slot, where it begins just then", bikes(mount("front", "a", 5, -1)), "rear", "a", 5, "[{rear a 5 -1}] 0"},
		{"out of another slot, in the place of another part", bikes(mount("front", "a", 5, -1), mount("rear", "b", 5, -1)), "rear", "a", 7, "[{front a 5 7} {rear b 5 7} {rear a 7 -1}] 0"},
		{"both begin just then", bikes(mount("front", "a", 5, -1), mount("rear", "b", 5, -1)), "rear", "a", 5, "[{rear a 5 -1}] 0"},
		{"until the slot's next one", bikes(mount("front", "a", 5, 8), mount("front", "b", 8, -1)), "front", "c", 3, "[{front c 3 5} {front a 5 8} {front b 8 -1}] 0"},
		{"until the part's next one", bikes(mount("rear", "c", 5, -1)), "front", "c", 3, "[{front c 3 5} {rear c 5 -1}] 0"},
		{"until the next one of the slot, not of the part", bikes(mount("front", "a", 5, 6), mount("rear", "c", 8, -1)), "front", "c", 3, "[{front c 3 5} {front a 5 6} {rear c 8 -1}] 0"},
		{"until the next one of the part, not of the slot", bikes(mount("rear", "c", 5, 6), mount("front", "a", 8, -1)), "front", "c", 3, "[{front c 3 5} {rear c 5 6} {front a 8 -1}] 0"},
		{"until the same again", bikes(mount("front", "c", 5, 6)), "front", "c", 3, "[{front c 3 5} {front c 5 6}] 0"},
		{"not until what others do", bikes(mount("rear", "b", 5, -1)), "front", "c", 3, "[{front c 3 -1} {rear b 5 -1}] 0"},
		{"between", bikes(mount("front", "a", 0, 10), mount("front", "a", 10, 20), mount("rear", "c", 15, -1)), "front", "c", 5, "[{front a 0 5} {front c 5 10} {front a 10 20} {rear c 15 -1}] 0"},
		{"what was there ends, also if the new one ends before it would", bikes(mount("front", "a", 0, 100), mount("rear", "b", 50, -1)), "front", "b", 10, "[{front a 0 10} {front b 10 50} {rear b 50 -1}] 0"},
		{"a moment ahead of the next one", bikes(mount("front", "a", 5, -1)), "front", "b", 4, "[{front b 4 5} {front a 5 -1}] 0"},
		{"the same, where it ends just then", bikes(mount("front", "a", 5, 6)), "front", "a", 6, "[{front a 5 6} {front a 6 -1}] 0"},
		{"the same, where it is", bikes(mount("front", "a", 5, 6)), "front", "a", 5, "[] 5"},
		{"the same, where it is for long", bikes(mount("front", "a", 5, -1)), "front", "a", last, "[] 5"},
		{"no slot ahead of no part", bikes(), "a", "front", -1, "[] 4"},
		{"no part ahead of no moment", bikes(), "front", "front", -1, "[] 4"},
		{"no moment ahead of the same", bikes(mount("front", "a", 5, -1)), "front", "a", last + 1, "[] 9"},
	} {
		want(t, c.what, mounts(gear.Put(c.g, c.slot, c.part, c.at)), c.want)
	}
}

func TestI2Take(t *testing.T) {
	for _, c := range []struct {
		what string
		g    api.Garage
		slot string
		at   int
		want string
	}{
		{"out of a slot", bikes(mount("front", "a", 5, -1)), "front", 6, "[{front a 5 6}] 0"},
		{"where it would end", bikes(mount("front", "a", 5, 9)), "front", 6, "[{front a 5 6}] 0"},
		{"just ahead of its end", bikes(mount("front", "a", 5, 9)), "front", 8, "[{front a 5 8}] 0"},
		{"where it begins just then", bikes(mount("front", "a", 5, -1)), "front", 5, "[] 0"},
		{"at the last moment", bikes(mount("front", "a", 5, -1)), "front", last, "[{front a 5 86399999999}] 0"},
		{"all else stays", bikes(mount("front", "a", 0, 5), mount("front", "a", 5, 8), mount("rear", "b", 5, -1), mount("front", "c", 8, -1)), "front", 5, "[{front a 0 5} {rear b 5 -1} {front c 8 -1}] 0"},
		{"where it ended", bikes(mount("front", "a", 5, 9)), "front", 9, "[] 13"},
		{"where it does not begin yet", bikes(mount("front", "a", 5, 9)), "front", 4, "[] 13"},
		{"out of another slot", bikes(mount("front", "a", 5, -1)), "rear", 6, "[] 13"},
		{"no slot ahead of no moment", bikes(), "a", -1, "[] 4"},
		{"no moment ahead of nothing", bikes(), "front", -1, "[] 9"},
	} {
		want(t, c.what, mounts(gear.Take(c.g, c.slot, c.at)), c.want)
	}
}

func TestI2In(t *testing.T) {
	g := bikes(mount("front", "a", 5, 9), mount("front", "b", 9, 10), mount("rear", "a", 20, -1))
	for _, c := range []struct {
		slot string
		at   int
		want string
	}{
		{"front", 0, " false 0"}, {"front", 4, " false 0"}, {"front", 5, "a true 0"}, {"front", 8, "a true 0"}, {"front", 9, "b true 0"}, {"front", 10, " false 0"}, {"front", last, " false 0"},
		{"rear", 19, " false 0"}, {"rear", 20, "a true 0"}, {"rear", last, "a true 0"}, {"seat", 20, " false 0"},
		{"a", 5, " false 4"}, {"", 5, " false 4"}, {"bike", -1, " false 4"}, {"front", -1, " false 9"}, {"front", last + 1, " false 9"},
	} {
		want(t, fmt.Sprint(c.slot, " ", c.at), told(gear.In(g, c.slot, c.at)), c.want)
	}
}

// slowPut follows the words of the document.
func slowPut(g api.Garage, slot, part string, at int) (api.Garage, api.Errno) {
	switch {
	case !hasSlot(g, slot), !hasPart(g, part):
		return api.Garage{}, api.ErrNone
	case outOf(at, 0, last):
		return api.Garage{}, api.ErrRange
	case slowPart(g, slot, at) == part:
		return api.Garage{}, api.ErrTwice
	}
	added := mount(slot, part, at, -1)
	var left []api.Mount
	for _, m := range g.Mounts {
		isOn := m.From <= at && at < slowEnd(m)
		if (m.Slot == slot || m.Part == part) && isOn {
			m.To = at
		}
		if (m.Slot == slot || m.Part == part) && m.From > at && (added.To == -1 || m.From < added.To) {
			added.To = m.From
		}
		if m.From != m.To {
			left = append(left, m)
		}
	}
	g.Mounts = append(left, added)
	sortMounts(g.Mounts)
	return g, api.OK
}

func slowTake(g api.Garage, slot string, at int) (api.Garage, api.Errno) {
	switch {
	case !hasSlot(g, slot):
		return api.Garage{}, api.ErrNone
	case outOf(at, 0, last):
		return api.Garage{}, api.ErrRange
	case slowPart(g, slot, at) == "":
		return api.Garage{}, api.ErrEmpty
	}
	g.Mounts = slices.Clone(g.Mounts)
	n := slowMount(g, slot, at)
	g.Mounts[n].To = at
	if g.Mounts[n].From == at {
		g.Mounts = slices.Delete(g.Mounts, n, n+1)
	}
	return g, api.OK
}

func TestI2PutTakeMany(t *testing.T) {
	r := rand.New(rand.NewSource(92))
	seen := map[api.Errno]int{}
	for range 8000 {
		g, base := randomGarage(r)
		for range 6 {
			slot, part, at := anySlot(r, g), anyPart(r, g), moment(r, base)
			if r.Intn(30) == 0 {
				at = one(r, -1, last+1)
			}
			what := fmt.Sprint(g, slot, part, at)
			next, e := gear.Put(g, slot, part, at)
			wanted, slowE := slowPut(g, slot, part, at)
			if r.Intn(3) == 0 {
				next, e = gear.Take(g, slot, at)
				wanted, slowE = slowTake(g, slot, at)
			}
			seen[e]++
			want(t, what, told(next, e), told(wanted, slowE))
			if e == api.OK {
				want(t, what+": right", told(gear.Check(next)), "0")
				g = next
			}
		}
	}
	for _, e := range []api.Errno{api.OK, api.ErrNone, api.ErrRange, api.ErrTwice, api.ErrEmpty} {
		if seen[e] < 500 {
			t.Error("not often: ", e, seen[e])
		}
	}
}

// TestI2Moments asks what is in all slots at all moments behind Put.
func TestI2Moments(t *testing.T) {
	r := rand.New(rand.NewSource(93))
	for range 3000 {
		g, base := randomGarage(r)
		slot, part, at := anySlot(r, g), anyPart(r, g), moment(r, base)
		next, e := gear.Put(g, slot, part, at)
		if e != api.OK {
			continue
		}
		until := last + 1
		for _, m := range g.Mounts {
			if m.From > at && (m.Slot == slot || m.Part == part) {
				until = min(until, m.From)
			}
		}
		for _, s := range g.Slots {
			for now := base; now <= min(base+span+20, last); now++ {
				in := slowPart(g, s.Name, now)
				if n := slowMount(g, s.Name, now); n >= 0 && now >= at && g.Mounts[n].From <= at && (s.Name == slot || in == part) {
					in = ""
				}
				if s.Name == slot && at <= now && now < until {
					in = part
				}
				want(t, fmt.Sprint(g, slot, part, at, s.Name, now), told(gear.In(next, s.Name, now)), told(in, in != "", 0))
			}
		}
	}
}

func TestI2PutSize(t *testing.T) {
	g := large()
	g.Uses = nil
	end := len(g.Mounts) - 1
	what := func(g api.Garage, e api.Errno) string { return told(len(g.Mounts), e) }
	want(t, "one more", what(gear.Put(g, "s00", "p400", 5000)), "0 3")
	want(t, "one more, there already", what(gear.Put(g, "s00", "p000", 0)), "0 5")
	want(t, "one for another one", what(gear.Put(g, "s00", "p100", 0)), "2000 0")
	want(t, "one for two others", what(gear.Put(g, "s00", "p001", 0)), "1999 0")
	g.Mounts = g.Mounts[:end]
	want(t, "the last one that is permitted", what(gear.Put(g, "s00", "p400", 5000)), "2000 0")
	want(t, "take one away", what(gear.Take(large(), "s00", 0)), "1999 0")
}
