package gear

import (
	"harrier/api"
	"harrier/quant"
)

// Dues returns what is left of the plans of each part that is in a slot at a moment.
func Dues(g api.Garage, plans []api.Care, done []api.Service, at int) ([]api.Due, api.Errno) {
	if e := Check(g); e != api.OK {
		return nil, e
	}
	if e := checkPlans(g.Slots, plans); e != api.OK {
		return nil, e
	}
	if e := checkDone(g.Parts, done); e != api.OK {
		return nil, e
	}
	if !isMoment(at) {
		return nil, api.ErrRange
	}
	last := lastServices(g.Mounts, done, at)
	wears := wearsOf(g, func(part string, from int) bool { return last[part] <= from && from < at })
	had := hadBySlot(g.Mounts)
	var l []api.Due
	for _, s := range g.Slots {
		part, ok := partAt(had[s.Name], at)
		for i, plan := range plans {
			if ok && plan.Slot == s.Name {
				due := api.Due{Part: part, Slot: s.Name, Plan: i}
				due.Way, due.Days = leftOf(plan, wears[part].Way, at-last[part])
				l = append(l, due)
			}
		}
	}
	return l, api.OK
}

func checkPlans(slots []api.Slot, plans []api.Care) api.Errno {
	if len(plans) > MaxPlans {
		return api.ErrSize
	}
	for _, p := range plans {
		if !hasSlot(slots, p.Slot) {
			return api.ErrNone
		}
		if !within(p.Way, 0, quant.MaxDistance) || !within(p.Days, 0, api.MaxDay) {
			return api.ErrRange
		}
		if p.Way == 0 && p.Days == 0 {
			return api.ErrEmpty
		}
	}
	return api.OK
}

func checkDone(parts []api.GearPart, done []api.Service) api.Errno {
	if len(done) > MaxUses {
		return api.ErrSize
	}
	for _, s := range done {
		if !hasPart(parts, s.Part) {
			return api.ErrNone
		}
		if !isMoment(s.At) {
			return api.ErrRange
		}
	}
	return api.OK
}

// lastServices returns for each part when its last service was, up to a moment. A part without one is as if it had been serviced when it was mounted first.
func lastServices(mounts []api.Mount, done []api.Service, at int) map[string]int {
	last := map[string]int{}
	for _, s := range done {
		if s.At <= at {
			last[s.Part] = max(last[s.Part], s.At)
		}
	}
	for _, m := range mounts {
		if _, ok := last[m.Part]; !ok {
			last[m.Part] = m.From
		}
	}
	return last
}

// leftOf returns what is left of a plan when the last service is so far and so many seconds ago.
func leftOf(plan api.Care, way, seconds int) (wayLeft, daysLeft int) {
	if plan.Way > 0 {
		wayLeft = plan.Way - way
	}
	if plan.Days > 0 {
		daysLeft = plan.Days - seconds/api.DayLong
	}
	return wayLeft, daysLeft
}
