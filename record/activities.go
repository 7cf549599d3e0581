package record

import (
	"slices"

	"harrier/api"
	"harrier/quant"
)

// Check returns what is wrong with an activity.
func Check(a api.Activity) api.Errno {
	if !quant.IsName(a.Name) {
		return api.ErrName
	}
	if a.Sport < api.Run || a.Sport > api.Ski {
		return api.ErrKind
	}
	if a.Start < 0 || a.Start > api.MaxMoment {
		return api.ErrRange
	}
	if len(a.Samples) > api.MaxSamples || len(a.Laps) > api.MaxLaps || len(a.Tags) > api.MaxTags {
		return api.ErrSize
	}
	if e := checkSamples(a.Start, a.Samples); e != api.OK {
		return e
	}
	if e := checkLaps(a.Laps, Span(a)); e != api.OK {
		return e
	}
	return CheckTags(a.Tags)
}

// Span returns At of the last sample, 0 without samples.
func Span(a api.Activity) int {
	if len(a.Samples) == 0 {
		return 0
	}
	return a.Samples[len(a.Samples)-1].At
}

func checkSamples(start int, l []api.Sample) api.Errno {
	for i, x := range l {
		if i == 0 && x.At != 0 || i > 0 && x.At <= l[i-1].At {
			return api.ErrOrder
		}
		if x.At > api.MaxSpan || start+x.At > api.MaxMoment || !isPlaced(x) || !isMeasured(x) {
			return api.ErrRange
		}
	}
	return api.OK
}

func isPlaced(x api.Sample) bool {
	return within(x.X, -api.MaxPlace, api.MaxPlace) && within(x.Y, -api.MaxPlace, api.MaxPlace) && within(x.Z, -api.MaxHeight, api.MaxHeight)
}

func isMeasured(x api.Sample) bool {
	return within(x.Pulse, -1, api.MaxPulse) && within(x.Power, -1, api.MaxPower) && within(x.Steps, -1, api.MaxSteps)
}

func within(n, low, high int) bool { return low <= n && n <= high }

func checkLaps(l []api.Lap, span int) api.Errno {
	end := 0
	for _, x := range l {
		if x.From < 0 || x.From >= x.To || x.To > span {
			return api.ErrRange
		}
		if x.From < end {
			return api.ErrOrder
		}
		if !IsLapName(x.Name) {
			return api.ErrName
		}
		end = x.To
	}
	return api.OK
}

// IsLapName reports whether a lap can have this name.
func IsLapName(s string) bool {
	if len(s) > api.MaxName {
		return false
	}
	for i := range len(s) {
		if s[i] < 32 || s[i] > 126 {
			return false
		}
	}
	return true
}

// CheckTags returns what is wrong with the tags of an activity, but for how many there are.
func CheckTags(l []string) api.Errno {
	for i, x := range l {
		if !quant.IsName(x) {
			return api.ErrName
		}
		if i > 0 && x <= l[i-1] {
			return api.ErrOrder
		}
	}
	return api.OK
}

// Same reports whether two activities are equal in all fields.
func Same(a, b api.Activity) bool {
	return a.Name == b.Name && a.Sport == b.Sport && a.Start == b.Start &&
		slices.Equal(a.Samples, b.Samples) && slices.Equal(a.Laps, b.Laps) && slices.Equal(a.Tags, b.Tags)
}

// Clone returns an activity with memory of its own.
func Clone(a api.Activity) api.Activity {
	a.Samples, a.Laps, a.Tags = slices.Clone(a.Samples), slices.Clone(a.Laps), slices.Clone(a.Tags)
	return a
}

// JoinTags returns the tags of two lists, in order, each once.
func JoinTags(a, b []string) []string {
	tags := slices.Concat(a, b)
	slices.Sort(tags)
	return slices.Compact(tags)
}
