package desk

import (
	"harrier/api"
	"harrier/quant"
	"harrier/trail"
)

func (d *Desk) putActivity(x words) (string, api.Errno) {
	a, _, e := ReadActivity(x.text)
	if e != api.OK {
		return "", e
	}
	story, e := trail.NewStory(a)
	return put(d.activities, a.Name, &activity{story: story}, e)
}

func (d *Desk) drop(x words) (string, api.Errno) {
	_, e := find(d.activities, x.names[0])
	delete(d.activities, x.names[0])
	return "", e
}

func (d *Desk) edit(x words) (string, api.Errno) {
	edits, _, e := trail.Read(x.text + "\n")
	if e != api.OK {
		return "", e
	}
	a, e := find(d.activities, x.names[0])
	if e != api.OK {
		return "", e
	}
	if edits[0].Kind == trail.EditName {
		return "", api.ErrKind
	}
	return "", a.story.Do(edits[0])
}

func (d *Desk) undo(x words) (string, api.Errno) { return d.turn(x.names[0], (*trail.Story).Undo) }

func (d *Desk) redo(x words) (string, api.Errno) { return d.turn(x.names[0], (*trail.Story).Redo) }

// turn takes an edit back, or does it again, and tells whether there was one.
func (d *Desk) turn(name string, do func(*trail.Story) bool) (string, api.Errno) {
	a, e := find(d.activities, name)
	if e != api.OK {
		return "", e
	}
	if do(a.story) {
		return "yes\n", api.OK
	}
	return "no\n", api.OK
}

func (d *Desk) merge(x words) (string, api.Errno) {
	a, e := find(d.activities, x.names[0])
	if e != api.OK {
		return "", e
	}
	b, e := find(d.activities, x.names[1])
	if e != api.OK {
		return "", e
	}
	if a == b {
		return "", api.ErrTwice
	}
	both, e := trail.Merge(a.story.Now(), b.story.Now(), x.numbers[0])
	if e != api.OK {
		return "", e
	}
	story, e := trail.NewStory(both)
	if e != api.OK {
		return "", e
	}
	a.story = story
	delete(d.activities, x.names[1])
	return "", api.OK
}

func (d *Desk) setRig(x words) (string, api.Errno) {
	a, e := find(d.activities, x.names[0])
	if e != api.OK {
		return "", e
	}
	rig := x.names[1]
	// It is a name, but means none here.
	if rig == nothing {
		rig = ""
	} else if !quant.IsName(rig) {
		return "", api.ErrName
	}
	a.rig = rig
	return "", api.OK
}
