package gear

import (
	"harrier/api"
	"harrier/quant"
)

// Check returns what is wrong with a garage.
func Check(g api.Garage) api.Errno {
	if len(g.Parts) > MaxParts || len(g.Slots) > MaxSlots || len(g.Mounts) > MaxMounts || len(g.Uses) > MaxUses {
		return api.ErrSize
	}
	if e := checkParts(g.Parts); e != api.OK {
		return e
	}
	if e := checkSlots(g.Slots); e != api.OK {
		return e
	}
	if e := checkMounts(g); e != api.OK {
		return e
	}
	return checkUses(g.Uses)
}

// checkName asks for a name that is greater than the one before.
func checkName(name, before string) api.Errno {
	if !quant.IsName(name) {
		return api.ErrName
	}
	if name <= before {
		return api.ErrOrder
	}
	return api.OK
}

func checkParts(l []api.GearPart) api.Errno {
	before := "" // less than all names
	for _, x := range l {
		if e := checkName(x.Name, before); e != api.OK {
			return e
		}
		if !within(x.Cost, 0, MaxCost) {
			return api.ErrRange
		}
		before = x.Name
	}
	return api.OK
}

func checkSlots(l []api.Slot) api.Errno {
	before := "" // less than all names
	for _, x := range l {
		if e := checkName(x.Name, before); e != api.OK {
			return e
		}
		if !quant.IsName(x.Rig) {
			return api.ErrName
		}
		before = x.Name
	}
	return api.OK
}

// checkMounts has a garage whose parts and slots are right.
func checkMounts(g api.Garage) api.Errno {
	for i, m := range g.Mounts {
		if !hasSlot(g.Slots, m.Slot) || !hasPart(g.Parts, m.Part) {
			return api.ErrNone
		}
		if !isMoment(m.From) || m.To != open && !isMoment(m.To) {
			return api.ErrRange
		}
		if endOf(m) <= m.From || !comesAfter(g.Mounts, i, mountRank) {
			return api.ErrOrder
		}
	}
	if overlap(g.Mounts, slotOf) || overlap(g.Mounts, partOf) {
		return api.ErrState
	}
	return api.OK
}

func slotOf(m api.Mount) string { return m.Slot }

func partOf(m api.Mount) string { return m.Part }

// overlap reports whether two mounts of one slot, or of one part, have a moment in common. The mounts are in their order: so one that begins behind the end of the last one begins behind those of all others.
func overlap(l []api.Mount, nameOf func(api.Mount) string) bool {
	ends := map[string]int{}
	for _, m := range l {
		if m.From < ends[nameOf(m)] {
			return true
		}
		ends[nameOf(m)] = endOf(m)
	}
	return false
}

func checkUses(l []api.Use) api.Errno {
	names := map[string]bool{}
	for i, u := range l {
		if e := checkUse(u, names[u.Name]); e != api.OK {
			return e
		}
		if !comesAfter(l, i, useRank) {
			return api.ErrOrder
		}
		names[u.Name] = true
	}
	return api.OK
}

// checkUse asks all but the order. isTaken: another use has its name.
func checkUse(u api.Use, isTaken bool) api.Errno {
	if !quant.IsName(u.Name) || !quant.IsName(u.Rig) {
		return api.ErrName
	}
	if isTaken {
		return api.ErrTwice
	}
	if !isMoment(u.From) || !within(u.Seconds, 1, api.MaxSpan) || !within(u.Way, 0, quant.MaxDistance) {
		return api.ErrRange
	}
	return api.OK
}
