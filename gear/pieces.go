package gear

import (
	"harrier/api"
	"harrier/quant"
)

// A rigging tells the slots of each rig, and what each slot has had, both in their order.
type rigging struct {
	slots map[string][]string
	had   map[string][]api.Mount
}

func riggingOf(g api.Garage) rigging {
	slots := map[string][]string{}
	for _, s := range g.Slots {
		slots[s.Rig] = append(slots[s.Rig], s.Name)
	}
	return rigging{slots, hadBySlot(g.Mounts)}
}

// pieces returns the pieces of a use.
func (r rigging) pieces(u api.Use) []api.Piece {
	var l []api.Piece
	for _, slot := range r.slots[u.Rig] {
		l = append(l, divided(u, slot, r.had[slot])...)
	}
	return l
}

// divided returns the pieces of a use in a slot that has had such mounts.
func divided(u api.Use, slot string, had []api.Mount) []api.Piece {
	var l []api.Piece
	var seconds []int
	now, end := u.From, u.From+u.Seconds
	goOn := func(part string, to int) {
		if to = min(to, end); to <= now {
			return
		}
		l = append(l, api.Piece{Use: u.Name, Slot: slot, Part: part, Seconds: to - now})
		seconds = append(seconds, to-now)
		now = to
	}
	for _, m := range had {
		goOn("", m.From)
		goOn(m.Part, endOf(m))
	}
	goOn("", end)
	for i, way := range quant.Shares(u.Way, seconds) {
		l[i].Way = way
	}
	return l
}

// Pieces returns the pieces of all uses.
func Pieces(g api.Garage) ([]api.Piece, api.Errno) {
	if e := Check(g); e != api.OK {
		return nil, e
	}
	var l []api.Piece
	r := riggingOf(g)
	for _, u := range g.Uses {
		l = append(l, r.pieces(u)...)
	}
	return l, api.OK
}

// wearsOf returns for each part what its pieces are together, as far as they count: that is told by the part, and by when the use begins.
func wearsOf(g api.Garage, counts func(part string, from int) bool) map[string]api.Wear {
	wears := map[string]api.Wear{}
	lastUse := map[string]string{} // of each part: in one use it can have pieces in several slots
	r := riggingOf(g)
	for _, u := range g.Uses {
		for _, p := range r.pieces(u) {
			if !counts(p.Part, u.From) {
				continue
			}
			w := wears[p.Part]
			w.Seconds += p.Seconds
			w.Way += p.Way
			if lastUse[p.Part] != u.Name {
				w.Uses++
				lastUse[p.Part] = u.Name
			}
			wears[p.Part] = w
		}
	}
	return wears
}

func always(string, int) bool { return true }

// WearOf returns how much a part was used by the uses that begin from from on and before to.
func WearOf(g api.Garage, part string, from, to int) (api.Wear, api.Errno) {
	if e := Check(g); e != api.OK {
		return api.Wear{}, e
	}
	if !hasPart(g.Parts, part) {
		return api.Wear{}, api.ErrNone
	}
	if !isMoment(from) || !isMoment(to) {
		return api.Wear{}, api.ErrRange
	}
	if to < from {
		return api.Wear{}, api.ErrOrder
	}
	wears := wearsOf(g, func(_ string, begin int) bool { return from <= begin && begin < to })
	return wears[part], api.OK
}

// costedWay is the decimetres for which Rate tells the cost.
const costedWay = 10_000_000

// Rate returns what a part has cost for each 1,000 kilometres.
func Rate(g api.Garage, part string) (int, api.Errno) {
	if e := Check(g); e != api.OK {
		return 0, e
	}
	i, ok := findPart(g.Parts, part)
	if !ok {
		return 0, api.ErrNone
	}
	way := wearsOf(g, always)[part].Way
	if way == 0 {
		return 0, api.ErrEmpty
	}
	return quant.Scale(g.Parts[i].Cost, costedWay, way, quant.Near)
}
