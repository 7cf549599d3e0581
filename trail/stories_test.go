package trail_test

import (
	"fmt"
	"math/rand"
	"reflect"
	"slices"
	"testing"

	"harrier/api"
	"harrier/trail"
)

func newStory(t *testing.T, a api.Activity) *trail.Story {
	t.Helper()
	s, e := trail.NewStory(a)
	if s == nil || e != api.OK {
		t.Fatal("no story", e)
	}
	return s
}

func TestK5Story(t *testing.T) {
	s := newStory(t, full())
	want(t, "new", told(s.Now(), s.First(), s.Edits(), s.Undo(), s.Redo()), told(full(), full(), "[] false false"))
	want(t, "Do", told(s.Do(tag("a")), s.Do(shift(5)), s.Do(number(trail.EditUnlap, 0))), "0 0 0")
	now, _, _ := trail.All(full(), s.Edits())
	want(t, "Now", told(s.Now(), s.First(), s.Edits()), told(now, full(), []api.Edit{tag("a"), shift(5), number(trail.EditUnlap, 0)}))
	want(t, "Undo", told(s.Undo(), s.Undo(), s.Now().Start, len(s.Now().Laps), s.Now().Tags, s.Edits()), "true true 1000 2 [a b d] [{3 0 0 0 a}]")
	want(t, "Redo", told(s.Redo(), s.Now().Start, len(s.Now().Laps), len(s.Edits())), "true 1005 2 2")
	want(t, "Do with an error", told(s.Do(tag("a")), s.Do(api.Edit{}), s.Do(shift(-2000)), s.Now().Start, len(s.Edits())), "5 7 9 1005 2")
	want(t, "Redo behind errors", told(s.Redo(), len(s.Now().Laps), s.Redo()), "true 1 false")
	want(t, "Undo", told(s.Undo(), s.Undo(), s.Undo(), s.Undo(), s.Now(), s.Edits()), told(true, true, true, false, full(), "[]"))
	want(t, "Redo", told(s.Redo(), s.Redo(), s.Now().Start), "true true 1005")
	want(t, "Do behind Undo", told(s.Undo(), s.Do(raise(1)), s.Redo(), s.Now().Start, s.Now().Samples[1].Z, s.Edits()), told(true, 0, false, 1000, 10, []api.Edit{tag("a"), raise(1)}))
}

func TestK5New(t *testing.T) {
	a := full()
	a.Laps[1].To = 10
	s, e := trail.NewStory(a)
	want(t, "a wrong activity", told(s == nil, e), "true 9")
	want(t, "no samples", told(newStory(t, walk(7)).Now()), "{walk 4 7 [] [] []}")
}

func TestK5Many(t *testing.T) {
	s := newStory(t, full())
	for i := range trail.MaxEdits {
		want(t, fmt.Sprint("Do ", i), told(s.Do(shift(1+i))), "0")
	}
	want(t, "one more", told(s.Do(shift(1)), s.Now().Start, len(s.Edits())), "3 21100 200")
	want(t, "one more that has an error", told(s.Do(tag("b")), s.Do(api.Edit{})), "5 7")
	want(t, "with one taken back", told(s.Undo(), s.Do(shift(1)), s.Do(shift(1)), s.Now().Start), "true 0 3 20901")
	want(t, "Redo", told(s.Redo()), "false")
	want(t, "with two taken back, and an error", told(s.Undo(), s.Undo(), s.Do(untag("x")), s.Redo(), s.Redo(), s.Redo(), s.Now().Start), "true true 4 true true false 20901")
	for range trail.MaxEdits {
		want(t, "Undo", told(s.Undo()), "true")
	}
	want(t, "all taken back", told(s.Undo(), s.Now(), s.Edits()), told(false, full(), "[]"))
}

// TestK5Random has lists of the edits that are done, and of those that were taken back.
func TestK5Random(t *testing.T) {
	r := rand.New(rand.NewSource(115))
	for range 1500 {
		a := randomActivity(r)
		s := newStory(t, a)
		var done, back []api.Edit
		for range r.Intn(40) {
			switch r.Intn(5) {
			case 0, 1:
				x := randomEdit(r)
				now, _, _ := slowAll(a, done)
				_, e := slowApply(now, x)
				want(t, fmt.Sprint("Do ", x), told(s.Do(x)), told(e))
				if e == api.OK {
					done, back = append(slices.Clone(done), x), nil
				}
			case 2:
				want(t, "Undo", told(s.Undo()), told(len(done) > 0))
				if last := len(done) - 1; last >= 0 {
					done, back = done[:last], append(back, done[last])
				}
			case 3:
				want(t, "Redo", told(s.Redo()), told(len(back) > 0))
				if last := len(back) - 1; last >= 0 {
					done, back = append(slices.Clone(done), back[last]), back[:last]
				}
			case 4:
				now, _, _ := slowAll(a, done)
				want(t, fmt.Sprint("after ", done), told(s.Now(), s.First(), s.Edits()), told(now, a, done))
			}
		}
	}
}

// TestK5OwnMemory writes over all that a story was given, and over all that it returned (Z2).
func TestK5OwnMemory(t *testing.T) {
	a := full()
	a.Samples, a.Laps, a.Tags = roomy(a.Samples), roomy(a.Laps), roomy(a.Tags)
	s := newStory(t, a)
	scribble(reflect.ValueOf(a))
	want(t, "new", told(s.Now(), s.First()), told(full(), full()))
	edits := []api.Edit{raise(1), tag("x"), lap(4, 5, "x"), untag("b"), number(trail.EditField, 1), number(trail.EditUnlap, 0), crop(1, 8), raise(3)}
	for i, x := range edits {
		for range 2 {
			want(t, "Do", told(s.Do(x)), "0")
			now, _, _ := slowAll(full(), edits[:i+1])
			for range 2 {
				want(t, fmt.Sprint("after ", x), told(s.Now(), s.First(), s.Edits()), told(now, full(), edits[:i+1]))
				scribble(reflect.ValueOf(s.Now()))
				scribble(reflect.ValueOf(s.First()))
				scribble(reflect.ValueOf(s.Edits()))
			}
			want(t, "Undo", told(s.Undo()), "true")
			scribble(reflect.ValueOf(s.Now()))
			scribble(reflect.ValueOf(s.Edits()))
		}
		want(t, "Redo", told(s.Redo()), "true")
	}
}

// TestK5Two asks whether stories leave each other alone.
func TestK5Two(t *testing.T) {
	a := full()
	s, u := newStory(t, a), newStory(t, a)
	s.Do(raise(5))
	s.Do(tag("a"))
	want(t, "the other one", told(u.Now(), u.Edits(), u.Undo()), told(full(), "[] false"))
}
