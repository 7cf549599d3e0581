package match

import (
	"cmp"
	"iter"
	"maps"
	"slices"

	"harrier/api"
	"harrier/quant"
)

// CheckEntry returns what is wrong with an entry of a board.
func CheckEntry(x api.Score) api.Errno {
	if !quant.IsName(x.Name) {
		return api.ErrName
	}
	if !within(x.Start, 0, api.MaxMoment) || !within(x.Time, 1, MaxTime) {
		return api.ErrRange
	}
	return api.OK
}

// Places returns the best entry of each name, the best one first.
func Places(l []api.Score) ([]api.Place, api.Errno) {
	if len(l) > MaxBoard {
		return nil, api.ErrSize
	}
	for _, x := range l {
		if e := CheckEntry(x); e != api.OK {
			return nil, e
		}
	}
	return placesOf(slices.Values(l)), api.OK
}

func placesOf(entries iter.Seq[api.Score]) []api.Place {
	var list []api.Place
	seen := map[string]bool{}
	for _, x := range slices.SortedFunc(entries, compareScores) {
		if seen[x.Name] {
			continue
		}
		seen[x.Name] = true
		rank := len(list) + 1
		if rank > 1 && list[rank-2].Score.Time == x.Time {
			rank = list[rank-2].Rank
		}
		list = append(list, api.Place{Rank: rank, Score: x})
	}
	return list
}

func compareScores(x, y api.Score) int {
	return cmp.Or(cmp.Compare(x.Time, y.Time), cmp.Compare(x.Start, y.Start), cmp.Compare(x.Name, y.Name))
}

// A Board keeps entries: how many there are of each, and of all.
type Board struct {
	many map[api.Score]int
	size int
}

// NewBoard returns a board without entries.
func NewBoard() *Board { return &Board{many: map[api.Score]int{}} }

// Add adds an entry.
func (b *Board) Add(x api.Score) api.Errno {
	if e := CheckEntry(x); e != api.OK {
		return e
	}
	if b.size == MaxBoard {
		return api.ErrSize
	}
	b.many[x]++
	b.size++
	return api.OK
}

// Remove takes an entry away that is equal to x.
func (b *Board) Remove(x api.Score) api.Errno {
	if e := CheckEntry(x); e != api.OK {
		return e
	}
	if b.many[x] == 0 {
		return api.ErrNone
	}
	b.many[x]--
	b.size--
	if b.many[x] == 0 {
		delete(b.many, x)
	}
	return api.OK
}

// Places returns the best entry of each name, the best one first.
func (b *Board) Places() []api.Place { return placesOf(maps.Keys(b.many)) }

// Size returns how many entries there are.
func (b *Board) Size() int { return b.size }
