package load

import "harrier/api"

// Days of the time constants of a book.
const (
	fitnessDays = 42
	fatigueDays = 7
)

// Days of the sums of which Ratio tells.
const (
	fewDays  = 7
	manyDays = 28
)

// A Book has loads by days, and knows fitness and fatigue ahead of its first day.
type Book struct {
	first, fitness, fatigue int
	loads                   []int // from the day first on; days behind the last one of them have none
}

// NewBook returns a book that begins with a day, without loads.
func NewBook(first, fitness, fatigue int) (*Book, api.Errno) {
	if !within(first, 0, api.MaxDay) || !isState(fitness) || !isState(fatigue) {
		return nil, api.ErrRange
	}
	return &Book{first: first, fitness: fitness, fatigue: fatigue}, api.OK
}

func (b *Book) has(day int) bool {
	return within(day, b.first, min(b.first+MaxDays-1, api.MaxDay))
}

func (b *Book) load(day int) int {
	if i := day - b.first; within(i, 0, len(b.loads)-1) {
		return b.loads[i]
	}
	return 0
}

func (b *Book) setLoad(day, load int) {
	i := day - b.first
	for len(b.loads) <= i {
		b.loads = append(b.loads, 0)
	}
	b.loads[i] = load
}

// Add adds to the load of a day.
func (b *Book) Add(day, load int) api.Errno {
	if !b.has(day) || !isLoad(load) {
		return api.ErrRange
	}
	sum := b.load(day) + load
	if sum > MaxLoad {
		return api.ErrSize
	}
	b.setLoad(day, sum)
	return api.OK
}

// Take takes away from the load of a day.
func (b *Book) Take(day, load int) api.Errno {
	if !b.has(day) || !isLoad(load) {
		return api.ErrRange
	}
	rest := b.load(day) - load
	if rest < 0 {
		return api.ErrNone
	}
	b.setLoad(day, rest)
	return api.OK
}

// On returns how somebody is on a day.
func (b *Book) On(day int) (api.State, api.Errno) {
	list, e := b.Between(day, day)
	if e != api.OK {
		return api.State{}, e
	}
	return list[0], api.OK
}

// Between returns how somebody is on each day from one to another.
func (b *Book) Between(from, to int) ([]api.State, api.Errno) {
	if !b.has(from) || !b.has(to) {
		return nil, api.ErrRange
	}
	if to < from {
		return nil, api.ErrOrder
	}
	var list []api.State
	fitness, fatigue := b.fitness, b.fatigue
	// From the first day on, as each state comes from the one before.
	for i := range to - b.first + 1 {
		x := api.State{Day: b.first + i, Load: b.load(b.first + i), Form: fitness - fatigue}
		fitness, fatigue = step(fitness, x.Load, fitnessDays), step(fatigue, x.Load, fatigueDays)
		x.Fitness, x.Fatigue = fitness, fatigue
		if x.Day >= from {
			list = append(list, x)
		}
	}
	return list, api.OK
}

// Ratio returns the loads of a week up to a day to those of four weeks, if these have any.
func (b *Book) Ratio(day int) (api.Ratio, bool, api.Errno) {
	if !b.has(day) {
		return api.Ratio{}, false, api.ErrRange
	}
	few, many := 0, 0
	for i := range manyDays {
		load := b.load(day - i)
		many += load
		if i < fewDays {
			few += load
		}
	}
	ratio := RatioOf(few*(manyDays/fewDays), many)
	if ratio == (api.Ratio{}) {
		return api.Ratio{Num: 0, Den: 1}, false, api.OK
	}
	return ratio, true, api.OK
}
