package veil

import (
	"iter"
	"slices"

	"harrier/api"
)

// A view has what the rules do that apply to a level, in their order.
type view struct {
	hideAll []func(api.Activity) bool
	hide    []func(s api.Sample, start int) bool
	change  []func(*api.Activity)
}

func viewOf(v api.Veil, level int) view {
	var w view
	for _, x := range v.Rules {
		if x.From > level {
			continue
		}
		r, k := rule(x), kinds()[x.Kind]
		if k.hidesAll != nil {
			w.hideAll = append(w.hideAll, func(a api.Activity) bool { return k.hidesAll(r, a) })
		}
		if k.hides != nil {
			w.hide = append(w.hide, func(s api.Sample, start int) bool { return k.hides(r, s, start) })
		}
		if k.change != nil {
			w.change = append(w.change, func(p *api.Activity) { k.change(r, p) })
		}
	}
	return w
}

func (w view) hidesAll(a api.Activity) bool {
	return slices.ContainsFunc(w.hideAll, func(hides func(api.Activity) bool) bool { return hides(a) })
}

// hides has the Start of an activity that is not hidden, and a sample of it.
func (w view) hides(s api.Sample, start int) bool {
	for _, hides := range w.hide {
		if hides(s, start) {
			return true
		}
	}
	return false
}

// Hidden returns for each sample whether it is hidden from a level, and whether the activity is.
func Hidden(v api.Veil, level int, a api.Activity) ([]bool, bool, api.Errno) {
	if e := checkSeen(v, level, []api.Activity{a}); e != api.OK {
		return nil, false, e
	}
	w := viewOf(v, level)
	hidden, all := make([]bool, len(a.Samples)), w.hidesAll(a)
	for i, s := range a.Samples {
		hidden[i] = all || w.hides(s, a.Start)
	}
	return hidden, all, api.OK
}

// See returns the pieces that a level sees of an activity.
func See(v api.Veil, level int, a api.Activity) ([]api.Activity, api.Errno) {
	return SeeAll(v, level, []api.Activity{a})
}

// SeeAll returns the pieces that a level sees of a log.
func SeeAll(v api.Veil, level int, l []api.Activity) ([]api.Activity, api.Errno) {
	if e := checkSeen(v, level, l); e != api.OK {
		return nil, e
	}
	return slices.Collect(viewOf(v, level).pieces(l)), api.OK
}

// pieces yields what is seen of activities, one behind the other. Each piece has memory of its own.
func (w view) pieces(l []api.Activity) iter.Seq[api.Activity] {
	return func(yield func(api.Activity) bool) {
		for _, a := range l {
			for samples := range w.runs(a) {
				if !yield(w.pieceOf(a, samples)) {
					return
				}
			}
		}
	}
}

// runs yields lists of the samples of an activity that are not hidden, with no pause between them.
func (w view) runs(a api.Activity) iter.Seq[[]api.Sample] {
	return func(yield func([]api.Sample) bool) {
		if w.hidesAll(a) {
			return
		}
		var run []api.Sample
		for _, s := range a.Samples {
			if w.hides(s, a.Start) {
				continue
			}
			if last := len(run) - 1; last >= 0 && s.At-run[last].At > MaxPause {
				if !yield(run) {
					return
				}
				run = nil
			}
			run = append(run, s)
		}
		if len(run) > 0 {
			yield(run)
		}
	}
}

// pieceOf returns the piece that has these samples of an activity. It takes the samples over.
func (w view) pieceOf(a api.Activity, samples []api.Sample) api.Activity {
	later := samples[0].At
	p := api.Activity{
		Name:    a.Name,
		Sport:   a.Sport,
		Start:   a.Start + later,
		Samples: samples,
		Laps:    lapsAmong(a.Laps, samples),
		Tags:    slices.Clone(a.Tags),
	}
	for i := range p.Samples {
		p.Samples[i].At -= later
	}
	for i := range p.Laps {
		p.Laps[i].From -= later
		p.Laps[i].To -= later
	}
	for _, change := range w.change {
		change(&p)
	}
	return p
}

// lapsAmong returns the laps that begin and end at samples.
func lapsAmong(l []api.Lap, samples []api.Sample) []api.Lap {
	var laps []api.Lap
	for _, x := range l {
		if hasSampleAt(samples, x.From) && hasSampleAt(samples, x.To) {
			laps = append(laps, x)
		}
	}
	return laps
}

func hasSampleAt(l []api.Sample, at int) bool {
	_, ok := slices.BinarySearchFunc(l, at, func(s api.Sample, at int) int { return s.At - at })
	return ok
}
