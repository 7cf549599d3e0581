package workout

import (
	"slices"

	"harrier/api"
	"harrier/quant"
)

// Check returns what is wrong with a workout.
func Check(w api.Workout) api.Errno {
	if !quant.IsName(w.Name) {
		return api.ErrName
	}
	if len(w.Items) == 0 {
		return api.ErrEmpty
	}
	if _, e := checkItems(w.Items, 0, 0); e != api.OK {
		return e
	}
	if countSteps(w.Items) > MaxBlocks {
		return api.ErrSize
	}
	return api.OK
}

// checkItems looks at items within so many repeats, ahead of which there are so many others. It returns how many there are up to the last one of them.
func checkItems(l []api.Item, nest, before int) (many int, e api.Errno) {
	many = before
	for _, x := range l {
		many++
		if many > MaxItems || nest > MaxNest {
			return many, api.ErrSize
		}
		if e = checkItem(x); e != api.OK {
			return many, e
		}
		if many, e = checkItems(x.Items, nest+1, many); e != api.OK {
			return many, e
		}
	}
	return many, api.OK
}

// checkItem does not look at the items within.
func checkItem(x api.Item) api.Errno {
	switch x.Kind {
	case ItemStep, ItemRamp:
		return checkStep(x)
	case ItemRepeat:
		return checkRepeat(x)
	}
	return api.ErrKind
}

func checkStep(x api.Item) api.Errno {
	if !quant.IsName(x.Name) {
		return api.ErrName
	}
	if x.Times != 0 || len(x.Items) > 0 {
		return api.ErrForm
	}
	if (x.Seconds == 0) == (x.Way == 0) {
		return api.ErrForm
	}
	if !within(x.Seconds, 0, quant.MaxDuration) || !within(x.Way, 0, quant.MaxDistance) {
		return api.ErrRange
	}
	return checkAim(x.Aim, x.Kind == ItemRamp)
}

func checkAim(a api.Aim, isRamp bool) api.Errno {
	if !isMeasure(a.Measure) {
		return api.ErrKind
	}
	if a.Measure == AimNone {
		if a != (api.Aim{}) || isRamp {
			return api.ErrForm
		}
		return api.OK
	}
	most := measures[a.Measure].most
	if a.Percent {
		if a.Measure == AimSteps {
			return api.ErrForm
		}
		most = maxPercent
	}
	if !within(a.Low, 1, most) || !within(a.High, 1, most) {
		return api.ErrRange
	}
	if a.Low > a.High && !isRamp {
		return api.ErrOrder
	}
	return api.OK
}

func checkRepeat(x api.Item) api.Errno {
	if x.Name != "" || x.Seconds != 0 || x.Way != 0 || x.Aim != (api.Aim{}) {
		return api.ErrForm
	}
	if !within(x.Times, 1, MaxTimes) {
		return api.ErrRange
	}
	if len(x.Items) == 0 {
		return api.ErrEmpty
	}
	return api.OK
}

// countSteps returns how many steps and ramps are done.
func countSteps(l []api.Item) int {
	many := 0
	for _, x := range l {
		if x.Kind == ItemRepeat {
			many += x.Times * countSteps(x.Items)
		} else {
			many++
		}
	}
	return many
}

// Same reports whether two workouts are equal in all fields.
func Same(a, b api.Workout) bool {
	return a.Name == b.Name && slices.EqualFunc(a.Items, b.Items, sameItem)
}

func sameItem(a, b api.Item) bool {
	return a.Kind == b.Kind && a.Name == b.Name && a.Seconds == b.Seconds && a.Way == b.Way &&
		a.Aim == b.Aim && a.Times == b.Times && slices.EqualFunc(a.Items, b.Items, sameItem)
}

// CheckAthlete returns what is wrong with an athlete.
func CheckAthlete(h api.Athlete) api.Errno {
	if !within(h.Power, 1, api.MaxPower) || !within(h.Pulse, 1, api.MaxPulse) || !within(h.Pace, 1, quant.MaxPace) {
		return api.ErrRange
	}
	return api.OK
}

// checkBoth asks the workout first.
func checkBoth(w api.Workout, h api.Athlete) api.Errno {
	if e := Check(w); e != api.OK {
		return e
	}
	return CheckAthlete(h)
}
