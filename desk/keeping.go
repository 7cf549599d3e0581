package desk

import (
	"harrier/api"
	"harrier/gear"
	"harrier/quant"
	"harrier/season"
	"harrier/veil"
	"harrier/workout"
)

// put puts something by its name, in the place of what has it, unless there is an error.
func put[T any](all map[string]T, name string, x T, e api.Errno) (string, api.Errno) {
	if e != api.OK {
		return "", e
	}
	if _, ok := all[name]; !ok && len(all) == MaxDesk {
		return "", api.ErrSize
	}
	all[name] = x
	return "", api.OK
}

// set puts something in its place, unless there is an error.
func set[T any](place *T, x T, e api.Errno) (string, api.Errno) {
	if e == api.OK {
		*place = x
	}
	return "", e
}

func (d *Desk) putSegment(x words) (string, api.Errno) {
	s, _, e := ReadSegment(x.text)
	return put(d.segments, s.Name, s, e)
}

func (d *Desk) putWorkout(x words) (string, api.Errno) {
	w, _, e := workout.Read(x.text)
	return put(d.workouts, w.Name, w, e)
}

func (d *Desk) setVeil(x words) (string, api.Errno) {
	v, _, e := veil.Read(x.text)
	return set(&d.veil, v, e)
}

func (d *Desk) setGarage(x words) (string, api.Errno) {
	g, _, e := gear.Read(x.text)
	if len(g.Uses) > 0 {
		e = api.ErrState
	}
	return set(&d.garage, g, e)
}

func (d *Desk) setSeason(x words) (string, api.Errno) {
	s, _, e := season.Read(x.text)
	return set(&d.season, &s, e)
}

func (d *Desk) setAthlete(x words) (string, api.Errno) {
	h := api.Athlete{Power: x.numbers[0], Pulse: x.numbers[1], Pace: x.numbers[2]}
	return set(&d.athlete, h, workout.CheckAthlete(h))
}

func (d *Desk) setClock(x words) (string, api.Errno) {
	z := api.Zone{First: x.numbers[0]}
	return set(&d.zone, z, quant.CheckZone(z))
}

func (d *Desk) mount(x words) (string, api.Errno) {
	g, e := gear.Put(d.garage, x.names[0], x.names[1], x.numbers[0])
	return set(&d.garage, g, e)
}

func (d *Desk) unmount(x words) (string, api.Errno) {
	g, e := gear.Take(d.garage, x.names[0], x.numbers[0])
	return set(&d.garage, g, e)
}
