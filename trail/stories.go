package trail

import (
	"slices"

	"harrier/api"
	"harrier/record"
)

// Story is an activity with its edits.
type Story struct {
	first api.Activity
	edits []api.Edit // those behind the number of done were taken back
	done  int
	// later is the activity after the first edits, as many as seen: it is brought to the number of done when it is asked for, so that edits can be taken back one by one without doing all others again.
	later api.Activity
	seen  int
}

// NewStory returns the story of an activity, without edits.
func NewStory(a api.Activity) (*Story, api.Errno) {
	if e := record.Check(a); e != api.OK {
		return nil, e
	}
	return &Story{first: record.Clone(a), later: record.Clone(a)}, api.OK
}

// now returns the activity after all edits. Its memory is the story's.
func (s *Story) now() api.Activity {
	if s.seen > s.done {
		s.later, s.seen = record.Clone(s.first), 0
	}
	for s.seen < s.done {
		// It was done before, at the same place, and had no error.
		change(&s.later, s.edits[s.seen])
		s.seen++
	}
	return s.later
}

// Do does an edit, and forgets those that were taken back.
func (s *Story) Do(x api.Edit) api.Errno {
	after, e := Apply(s.now(), x)
	if e != api.OK {
		return e
	}
	if s.done == MaxEdits {
		return api.ErrSize
	}
	s.edits = append(s.edits[:s.done], x)
	s.done++
	s.later, s.seen = after, s.done
	return api.OK
}

// Undo takes back the last edit, if there is one.
func (s *Story) Undo() bool {
	if s.done == 0 {
		return false
	}
	s.done--
	return true
}

// Redo does again the edit that was taken back last, if there is one.
func (s *Story) Redo() bool {
	if s.done == len(s.edits) {
		return false
	}
	s.done++
	return true
}

// Now returns the activity after all edits.
func (s *Story) Now() api.Activity { return record.Clone(s.now()) }

// First returns the activity before all edits.
func (s *Story) First() api.Activity { return record.Clone(s.first) }

// Edits returns the edits that were not taken back.
func (s *Story) Edits() []api.Edit { return slices.Clone(s.edits[:s.done]) }
