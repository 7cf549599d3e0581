package desk

import (
	"maps"
	"slices"
	"strconv"
	"strings"

	"harrier/api"
	"harrier/gear"
	"harrier/match"
	"harrier/record"
	"harrier/season"
	"harrier/veil"
	"harrier/workout"
)

func (d *Desk) show(x words) (string, api.Errno) {
	a, e := d.now(x.names[0])
	if e != api.OK {
		return "", e
	}
	return PrintActivity(a)
}

func (d *Desk) summary(x words) (string, api.Errno) {
	a, e := d.now(x.names[0])
	if e != api.OK {
		return "", e
	}
	return Summary(a, d.athlete, d.zone)
}

func (d *Desk) board(x words) (string, api.Errno) {
	s, e := find(d.segments, x.names[0])
	if e != api.OK {
		return "", e
	}
	var scores []api.Score
	for a := range d.all() {
		best, ok, e := match.Best(s, a)
		if e != api.OK {
			return "", e
		}
		if ok {
			time := best.At[len(best.At)-1] - best.At[0]
			scores = append(scores, api.Score{Name: a.Name, Start: a.Start, Time: max(time, 1)})
		}
	}
	places, e := match.Places(scores)
	var b []byte
	for _, p := range places {
		b = appendLine(b, strconv.Itoa(p.Rank)+" "+p.Score.Name, p.Score.Time)
	}
	return string(b), e
}

func (d *Desk) hold(x words) (string, api.Errno) {
	w, e := find(d.workouts, x.names[0])
	if e != api.OK {
		return "", e
	}
	a, e := d.now(x.names[1])
	if e != api.OK {
		return "", e
	}
	held, e := workout.Hold(w, d.athlete, a)
	return numberLine(append([]int{held.Cost}, held.Begins...)...), e
}

func (d *Desk) tiles(x words) (string, api.Errno) {
	seen := map[api.Tile]bool{}
	for a := range d.all() {
		l, e := match.Tiles(a, x.numbers[0])
		if e != api.OK {
			return "", e
		}
		for _, t := range l {
			seen[t] = true
		}
		// Here already, so that they are never many more.
		if len(seen) > match.MaxTiles {
			return "", api.ErrSize
		}
	}
	all := slices.SortedFunc(maps.Keys(seen), match.CompareTiles)
	_, side, _ := match.Square(all)
	cluster, e := match.Cluster(all)
	return numberLine(len(all), side, len(cluster)), e
}

func (d *Desk) see(x words) (string, api.Errno) {
	a, e := d.now(x.names[0])
	if e != api.OK {
		return "", e
	}
	pieces, e := veil.See(d.veil, x.numbers[0], a)
	var b []byte
	for _, p := range pieces {
		b = appendLine(b, p.Name, p.Start, record.Span(p))
	}
	return string(b), e
}

func (d *Desk) total(x words) (string, api.Errno) {
	var l []api.Activity
	for a := range d.all() {
		l = append(l, a)
	}
	sums, e := veil.Totals(d.veil, x.numbers[0], l)
	return numberLine(sums.Many, sums.Way, sums.Climb, sums.Seconds), e
}

func (d *Desk) wear(x words) (string, api.Errno) {
	g := d.garage
	for a, rig := range d.all() {
		span := record.Span(a)
		if rig == "" || span == 0 {
			continue
		}
		var e api.Errno
		if g, e = gear.Add(g, api.Use{Name: a.Name, Rig: rig, From: a.Start, Seconds: span, Way: wayOf(a)}); e != api.OK {
			return "", e
		}
	}
	w, e := gear.WearOf(g, x.names[0], 0, api.MaxMoment)
	return numberLine(w.Seconds, w.Way, w.Uses), e
}

func (d *Desk) plan(words) (string, api.Errno) {
	if d.season == nil {
		return "", api.ErrNone
	}
	plan, ok, e := season.Best(*d.season, nil)
	if e != api.OK {
		return "", e
	}
	if !ok {
		rules, _, e := season.Reason(*d.season, nil)
		return string(appendLine(nil, "none", rules...)), e
	}
	var names []string
	for _, n := range plan {
		name := nothing
		if n >= 0 {
			name = d.season.Sessions[n].Name
		}
		names = append(names, name)
	}
	return strings.Join(names, " ") + "\n", api.OK
}
