package desk_test

import (
	"fmt"
	"math/rand"
	"strings"
	"testing"

	"harrier/api"
	"harrier/desk"
)

// told writes results with spaces between; codes of errors as numbers.
func told(l ...any) string {
	for i, x := range l {
		if e, ok := x.(api.Errno); ok {
			l[i] = int(e)
		}
	}
	return strings.TrimSuffix(fmt.Sprintln(l...), "\n")
}

func want(t *testing.T, what, got, wanted string) {
	t.Helper()
	if got != wanted {
		t.Errorf("%s: got %q, want %q", what, got, wanted)
	}
}

func one[T any](r *rand.Rand, l ...T) T { return l[r.Intn(len(l))] }

// sample is one of which nothing is known but where it was.
func sample(at, x, y, z int) api.Sample {
	return api.Sample{At: at, X: x, Y: y, Z: z, Pulse: -1, Power: -1, Steps: -1}
}

// full has all that an activity can have.
func full() api.Activity {
	return api.Activity{
		Name: "full", Sport: api.Ride, Start: 100,
		Samples: []api.Sample{{At: 0, X: 0, Y: -5, Z: 7, Pulse: 120, Power: 0, Steps: -1}, {At: 10, X: 30, Y: -40, Z: -12, Pulse: -1, Power: 250, Steps: 80}, sample(25, 100_000_000, -100_000_000, 0)},
		Laps:    []api.Lap{{From: 0, To: 5, Name: "a b  c "}, {From: 5, To: 25, Name: ""}},
		Tags:    []string{"-", "race", "x.y"},
	}
}

const fullText = `activity full 2 100
tag -
tag race
tag x.y
lap 0 5 a b  c 
lap 5 25 
sample 0 0 -5 7 120 0 -
sample 10 30 -40 -12 - 250 80
sample 25 100000000 -100000000 0 - - -
`

// randomActivity is right.
func randomActivity(r *rand.Rand, name string) api.Activity {
	a := api.Activity{Name: name, Sport: 1 + r.Intn(5), Start: r.Intn(one(r, 1, 1000, 300_000, 5_000_000))}
	at := 0
	for range r.Intn(one(r, 1, 5, 60)) {
		s := sample(at, r.Intn(401)-200, r.Intn(401)-200, r.Intn(201)-100)
		for _, n := range []*int{&s.Pulse, &s.Power, &s.Steps} {
			if r.Intn(4) > 0 {
				*n = r.Intn(200)
			}
		}
		a.Samples = append(a.Samples, s)
		at += 1 + r.Intn(one(r, 1, 2, 30, 100))
	}
	span := 0
	if n := len(a.Samples); n > 0 {
		span = a.Samples[n-1].At
	}
	for from := 0; r.Intn(3) > 0 && from < span; {
		x := api.Lap{From: from + r.Intn(span-from), Name: one(r, "", "l", "a lap", " ")}
		x.To = x.From + 1 + r.Intn(span-x.From)
		a.Laps = append(a.Laps, x)
		from = x.To
	}
	for _, tag := range []string{"hill", "race", "x"} {
		if r.Intn(3) == 0 {
			a.Tags = append(a.Tags, tag)
		}
	}
	return a
}

func segment() api.Segment {
	gate := func(x, y, z, w int) api.Gate { return api.Gate{A: api.Point{X: x, Y: y}, B: api.Point{X: z, Y: w}} }
	return api.Segment{Name: "s", Gates: []api.Gate{gate(0, 10, 0, -10), gate(-100_000_000, 0, 100_000_000, 1), gate(100, 10, 100, -10)}}
}

const segmentText = "segment s\ngate 0 10 0 -10\ngate -100000000 0 100000000 1\ngate 100 10 100 -10\n"

// readActivity tells what ReadActivity returns, with the activity as it is.
func readActivity(s string) string { return told(desk.ReadActivity(s)) }

func readSegment(s string) string { return told(desk.ReadSegment(s)) }

// What the functions return beside an error.
const (
	noActivity = "{ 0 0 [] [] []} "
	noSegment  = "{ []} "
)
