package gear

import (
	"slices"

	"harrier/api"
)

const (
	maxSwapped = 20 // slots
	maxSwaps   = 100
)

// Swaps returns the swaps after which the parts that wore less are in the slots that wear more.
func Swaps(g api.Garage, slots []string, most int) ([][2]string, api.Errno) {
	if e := Check(g); e != api.OK {
		return nil, e
	}
	parts, e := partsInTheEnd(g, slots)
	if e != api.OK {
		return nil, e
	}
	if !within(most, 0, maxSwaps) {
		return nil, api.ErrRange
	}
	swaps := fewestSwaps(goalsOf(g, slots, parts))
	var l [][2]string
	for _, s := range swaps[:min(most, len(swaps))] {
		l = append(l, [2]string{slots[s[0]], slots[s[1]]})
	}
	return l, api.OK
}

// partsInTheEnd returns the parts that are in slots after all uses.
func partsInTheEnd(g api.Garage, slots []string) ([]string, api.Errno) {
	if len(slots) > maxSwapped {
		return nil, api.ErrSize
	}
	had := hadBySlot(g.Mounts)
	var parts []string
	for i, slot := range slots {
		if !hasSlot(g.Slots, slot) {
			return nil, api.ErrNone
		}
		if slices.Contains(slots[:i], slot) {
			return nil, api.ErrTwice
		}
		part, ok := partAt(had[slot], api.MaxMoment)
		if !ok {
			return nil, api.ErrEmpty
		}
		parts = append(parts, part)
	}
	return parts, api.OK
}

// goalsOf returns for each of slots, by its place among them, the place of the slot where its part is wanted.
func goalsOf(g api.Garage, slots, parts []string) []int {
	wears, ways := wearsOf(g, always), waysOfSlots(g)
	byPart := inOrder(numbersTo(len(parts)), func(i int) rank { return rank{wears[parts[i]].Way, parts[i]} })
	bySlot := inOrder(numbersTo(len(slots)), func(i int) rank { return rank{number: -ways[slots[i]]} })
	goals := make([]int, len(slots))
	for k, i := range byPart {
		goals[i] = bySlot[k]
	}
	return goals
}

// waysOfSlots returns the Way of each slot. Its pieces of a use add up to the use, so it is that of its rig.
func waysOfSlots(g api.Garage) map[string]int {
	ways := map[string]int{}
	for _, s := range g.Slots {
		ways[s.Name] = totalOf(g.Uses, s.Rig).Way
	}
	return ways
}

func numbersTo(n int) []int {
	l := make([]int, n)
	for i := range l {
		l[i] = i
	}
	return l
}

// fewestSwaps returns the least of the shortest lists of swaps after which each number is at its own place. A swap within a ring of places that lead to each other makes two rings of it, any other swap makes more to do: so the first place that is not right is swapped with the least other one of its ring. It takes the numbers over.
func fewestSwaps(goals []int) [][2]int {
	var l [][2]int
	for i := range goals {
		for goals[i] != i {
			j := leastOther(goals, i)
			goals[i], goals[j] = goals[j], goals[i]
			l = append(l, [2]int{i, j})
		}
	}
	return l
}

// leastOther returns the least place, but for i, of the ring of i.
func leastOther(goals []int, i int) int {
	least := goals[i]
	for j := goals[i]; j != i; j = goals[j] {
		least = min(least, j)
	}
	return least
}
