package workout

import (
	"harrier/api"
	"harrier/effort"
	"harrier/record"
)

const (
	maxCost  = 1_000  // of a second
	maxBound = 40_000 // of a block whose seconds are told a cost
	never    = 1 << 50
)

// Costs returns what each number of a stream costs in a block.
func Costs(b api.Block, l []int) ([]int, api.Errno) {
	if !isMeasure(b.Measure) {
		return nil, api.ErrKind
	}
	if b.Measure != AimNone {
		if !within(b.Low, 1, maxBound) || !within(b.High, 1, maxBound) {
			return nil, api.ErrRange
		}
		if b.Low > b.High {
			return nil, api.ErrOrder
		}
	}
	if e := effort.CheckStream(l); e != api.OK {
		return nil, e
	}
	return costsOf(b, l), api.OK
}

// costsOf has a block and a stream that are right.
func costsOf(b api.Block, l []int) []int {
	costs := make([]int, len(l))
	if b.Measure == AimNone {
		return costs
	}
	low, high := b.Low, b.High
	if b.Measure == AimPace {
		low, high = 10_000/b.High, (10_000+b.Low-1)/b.Low
	}
	for i, n := range l {
		costs[i] = costOf(n, low, high)
	}
	return costs
}

// costOf divides by no bound that is 0: no number that is known is below 0, and high is at least 1.
func costOf(n, low, high int) int {
	switch {
	case n < 0:
		return maxCost
	case n < low:
		return min(maxCost*(low-n)/low, maxCost)
	case n > high:
		return min(maxCost*(n-high)/high, maxCost)
	}
	return 0
}

// Hold holds an activity beside a workout, in the way that costs least.
func Hold(w api.Workout, h api.Athlete, a api.Activity) (api.Held, api.Errno) {
	if e := checkBoth(w, h); e != api.OK {
		return api.Held{}, e
	}
	if e := record.Check(a); e != api.OK {
		return api.Held{}, e
	}
	l, e := timelineOf(w, h)
	if e != api.OK {
		return api.Held{}, e
	}
	if len(l) > MaxHeld || record.Span(a) > MaxFit {
		return api.Held{}, api.ErrSize
	}
	if record.Span(a) < len(l) {
		return api.Held{}, api.ErrNone
	}
	f := newFit(l, a)
	return api.Held{Cost: f.rests[0][0], Begins: f.begins()}, api.OK
}

// A fit has what it costs to give the seconds of an activity to blocks.
type fit struct {
	blocks []api.Block
	sums   [][]int // for each block and each second, what the seconds ahead of this one cost together in the block
	rests  [][]int // for each block and each second, the least that this block and those behind it cost, if they have all seconds from this one on
}

func newFit(l []api.Block, a api.Activity) *fit {
	var streams [len(measures)][]int
	for n, m := range measures {
		streams[n], _ = effort.Stream(a, m.stream)
	}
	span := record.Span(a)
	f := &fit{blocks: l, rests: make([][]int, len(l)+1)}
	for _, b := range l {
		f.sums = append(f.sums, sumsOf(costsOf(b, streams[b.Measure])))
	}
	nothing := make([]int, span+1)
	for second := range span {
		nothing[second] = never // seconds would be left
	}
	f.rests[len(l)] = nothing
	for k := len(l) - 1; k >= 0; k-- {
		f.rests[k] = f.restsOf(k)
	}
	return f
}

// sumsOf returns the sums of the first numbers: of none, of one, and so on.
func sumsOf(l []int) []int {
	sums := make([]int, len(l)+1)
	for i, n := range l {
		sums[i+1] = sums[i] + n
	}
	return sums
}

func (f *fit) long(k int) int { return f.blocks[k].To - f.blocks[k].From }

// upTo returns what is sure to cost something, whatever length block k has, if it ends at a second: all seconds ahead of this one, and the blocks behind.
func (f *fit) upTo(k, to int) int { return f.sums[k][to] + f.rests[k+1][to] }

// cost returns what block k and those behind it cost, if it has the seconds from from on, before to.
func (f *fit) cost(k, from, to int) int {
	apart := to - from - f.long(k)
	return f.upTo(k, to) - f.sums[k][from] + Apart*max(apart, -apart)
}

// An ending is a second at which a block can end, with its cost but for what does not depend on it.
type ending struct{ to, cost int }

// restsOf goes through the seconds from the last one on: so the endings at which the block is not too long come and go one by one, and those at which it is not too short only come.
func (f *fit) restsOf(k int) []int {
	span, long := len(f.sums[k])-1, f.long(k)
	rests := make([]int, span+1)
	rests[span] = never // a block has a second
	var short []ending  // each one costs more than the one before it
	least := never      // of the endings at which the block is not too short
	for from := span - 1; from >= 0; from-- {
		full := from + long
		short = withEnding(short, ending{from + 1, f.upTo(k, from+1) - Apart*(from+1)})
		if short[0].to > full {
			short = short[1:]
		}
		if full <= span {
			least = min(least, f.upTo(k, full)+Apart*full)
		}
		rests[from] = min(short[0].cost+Apart*full, least-Apart*full) - f.sums[k][from]
	}
	return rests
}

// withEnding leaves out the endings that are not better than the new one: they go before it does.
func withEnding(l []ending, x ending) []ending {
	for len(l) > 0 && l[len(l)-1].cost >= x.cost {
		l = l[:len(l)-1]
	}
	return append(l, x)
}

// begins returns the first list of beginnings with the least cost: each one is as early as the blocks ahead of it permit.
func (f *fit) begins() []int {
	l := []int{0}
	for k := range len(f.blocks) - 1 {
		from := l[k]
		to := from + 1
		for f.cost(k, from, to) > f.rests[k][from] {
			to++
		}
		l = append(l, to)
	}
	return l
}
