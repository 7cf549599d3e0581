package gear

import (
	"math"

	"harrier/api"
)

// open is To of a mount that has no end.
const open = -1

// endOf returns the first moment at which a mount is over. One without an end goes on beyond api.MaxMoment, as uses can do.
func endOf(m api.Mount) int {
	if m.To == open {
		return math.MaxInt
	}
	return m.To
}

func isOn(m api.Mount, at int) bool { return m.From <= at && at < endOf(m) }

// hadBySlot returns for each slot the mounts that it has had, in their order.
func hadBySlot(l []api.Mount) map[string][]api.Mount {
	had := map[string][]api.Mount{}
	for _, m := range l {
		had[m.Slot] = append(had[m.Slot], m)
	}
	return had
}

// partAt returns the part that a slot with such mounts has at a moment, if it has one.
func partAt(had []api.Mount, at int) (string, bool) {
	for _, m := range had {
		if isOn(m, at) {
			return m.Part, true
		}
	}
	return "", false
}

// endedAt returns mounts, of which those that are on at a moment, and are meant, end there, or are left out if they begin there.
func endedAt(l []api.Mount, at int, isMeant func(api.Mount) bool) []api.Mount {
	var left []api.Mount
	for _, m := range l {
		if isMeant(m) && isOn(m, at) {
			if m.From == at {
				continue
			}
			m.To = at
		}
		left = append(left, m)
	}
	return left
}

// nextBegin returns when the first one of the mounts that are meant begins behind a moment, or open.
func nextBegin(l []api.Mount, at int, isMeant func(api.Mount) bool) int {
	for _, m := range l {
		if isMeant(m) && m.From > at {
			return m.From
		}
	}
	return open
}

// withMounts returns the garage with other mounts, which it takes over.
func withMounts(g api.Garage, l []api.Mount) api.Garage {
	g = clone(g)
	g.Mounts = inOrder(l, mountRank)
	return g
}

// Put mounts a part in a slot from a moment on.
func Put(g api.Garage, slot, part string, at int) (api.Garage, api.Errno) {
	if e := Check(g); e != api.OK {
		return api.Garage{}, e
	}
	if !hasSlot(g.Slots, slot) || !hasPart(g.Parts, part) {
		return api.Garage{}, api.ErrNone
	}
	if !isMoment(at) {
		return api.Garage{}, api.ErrRange
	}
	// Without a part there, its name is empty, which no part's name is.
	if now, _ := partAt(hadBySlot(g.Mounts)[slot], at); now == part {
		return api.Garage{}, api.ErrTwice
	}
	isMeant := func(m api.Mount) bool { return m.Slot == slot || m.Part == part }
	mounts := append(endedAt(g.Mounts, at, isMeant), api.Mount{Slot: slot, Part: part, From: at, To: nextBegin(g.Mounts, at, isMeant)})
	if len(mounts) > MaxMounts {
		return api.Garage{}, api.ErrSize
	}
	return withMounts(g, mounts), api.OK
}

// Take leaves a slot empty from a moment on, until its next mount begins.
func Take(g api.Garage, slot string, at int) (api.Garage, api.Errno) {
	_, ok, e := In(g, slot, at)
	if e != api.OK {
		return api.Garage{}, e
	}
	if !ok {
		return api.Garage{}, api.ErrEmpty
	}
	mounts := endedAt(g.Mounts, at, func(m api.Mount) bool { return m.Slot == slot })
	return withMounts(g, mounts), api.OK
}

// In returns the part that is in a slot at a moment, if there is one.
func In(g api.Garage, slot string, at int) (string, bool, api.Errno) {
	if e := Check(g); e != api.OK {
		return "", false, e
	}
	if !hasSlot(g.Slots, slot) {
		return "", false, api.ErrNone
	}
	if !isMoment(at) {
		return "", false, api.ErrRange
	}
	part, ok := partAt(hadBySlot(g.Mounts)[slot], at)
	return part, ok, api.OK
}
