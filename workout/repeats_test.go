package workout_test

import (
	"fmt"
	"math/rand"
	"strings"
	"testing"

	"harrier/api"
	"harrier/workout"
)

// lettered makes a workout with a step for each letter.
func lettered(s string) api.Workout {
	w := workoutOf()
	for _, c := range s {
		w.Items = append(w.Items, step(string(c), 5, api.Aim{}))
	}
	return w
}

// letters writes items as letters, and repeats as `3(ab)`.
func letters(l []api.Item) string {
	s := ""
	for _, x := range l {
		if x.Kind == workout.ItemRepeat {
			s += fmt.Sprintf("%d(%s)", x.Times, letters(x.Items))
		} else {
			s += x.Name
		}
	}
	return s
}

// slowFold follows the words of the document, with letters for items.
func slowFold(s string, within int) string {
	if within == 3 {
		return s
	}
	out := ""
	for s != "" {
		best, long, times := 0, 0, 0
		for n := len(s); n >= 1; n-- {
			for m := 2; m <= 99 && strings.HasPrefix(s, strings.Repeat(s[:n], m)); m++ {
				if less := n*m - n - 1; less > 0 && less >= best {
					best, long, times = less, n, m
				}
			}
		}
		if best == 0 {
			out, s = out+s[:1], s[1:]
			continue
		}
		out += fmt.Sprintf("%d(%s)", times, slowFold(s[:long], within+1))
		s = s[long*times:]
	}
	return out
}

// slowPlain writes the steps as they are done.
func slowPlain(l []api.Item) string {
	s := ""
	for _, x := range l {
		if x.Kind == workout.ItemRepeat {
			s += strings.Repeat(slowPlain(x.Items), x.Times)
		} else {
			x.Items = nil
			s += fmt.Sprintln(x)
		}
	}
	return s
}

func fold(s string) string {
	w, e := workout.Fold(lettered(s))
	return told(w.Name, letters(w.Items), e)
}

func TestG2Plain(t *testing.T) {
	for _, c := range []struct {
		what string
		w    api.Workout
		want string
	}{
		{"without repeats", lettered("abc"), "w abc 0"},
		{"a repeat", workoutOf(repeat(3, lettered("ab").Items...)), "w ababab 0"},
		{"once", workoutOf(repeat(1, lettered("ab").Items...)), "w ab 0"},
		{"within one another", workoutOf(repeat(2, repeat(2, append(lettered("ab").Items, repeat(3, lettered("c").Items...))...), lettered("d").Items[0])), "w abcccabcccdabcccabcccd 0"},
		{"all items", workoutOf(repeat(50, lettered("abcd").Items...)), "w " + strings.Repeat("abcd", 50) + " 0"},
		{"one more", workoutOf(repeat(50, lettered("abcd").Items...), easy()), "  3"},
		{"all blocks", workoutOf(repeat(10, repeat(10, repeat(10, easy())))), "  3"},
		{"no name", api.Workout{Items: lettered("a").Items}, "  8"},
		{"no items", lettered(""), "  13"},
	} {
		w, e := workout.Plain(c.w)
		want(t, c.what, told(w.Name, letters(w.Items), e), c.want)
	}
}

func TestG2Fold(t *testing.T) {
	one := strings.Repeat("aaab", 3) + "c"
	two := strings.Repeat(one, 3) + "d"
	for _, c := range [][2]string{
		{"a", "a"}, {"aa", "aa"}, {"aaa", "3(a)"}, {"aaaa", "4(a)"}, {"abab", "2(ab)"}, {"ababab", "3(ab)"}, {"abcabc", "2(abc)"}, {"abba", "abba"}, {"aab", "aab"}, {"baaab", "b3(a)b"},
		{"aaaaaa", "6(a)"},                              // 4 items less, with aa or aaa 3 and 2
		{"aabaab", "2(aab)"},                            // aa stays within
		{"aaabaaab", "2(3(a)b)"},                        // what is repeated is folded too
		{"aaaabaaaab", "2(4(a)b)"},                      // 4 less at once, with a alone 2
		{"aaaaaaaaabaaaaaaaaabaaaaaaaaab", "3(9(a)b)"},  // 19 less at once, with a alone 7
		{"aaaaaba", "5(a)ba"},                           // on behind all of them
		{"abababc", "3(ab)c"}, {"abaabaab", "2(aba)ab"}, //
		{"aaaaabab", "5(a)bab"}, {"abaababaabab", "2(abaab)ab"}, // the first place that makes it shorter, in whatever way the rest could be
		{"aaaabaaabaaab", "4(a)2(b3(a))b"},                                       //
		{strings.Repeat("a", 99), "99(a)"}, {strings.Repeat("a", 100), "99(a)a"}, // 97 less, as with aa: fewer items
		{strings.Repeat("a", 101), "99(a)aa"}, {strings.Repeat("a", 102), "51(aa)"}, {strings.Repeat("a", 103), "51(aa)a"},
		{strings.Repeat("a", 200), "99(aa)aa"}, {strings.Repeat("ab", 100), "99(ab)ab"}, {strings.Repeat("a", 198) + "bc", "99(aa)bc"},
		{strings.Repeat(two, 3), "3(3(3(aaab)c)d)"}, // within three repeats nothing is folded
		{"e" + one + one + "e", "e2(3(3(a)b)c)e"},   // within two it is
	} {
		want(t, c[0], fold(c[0]), told("w", c[1], 0))
		want(t, c[0]+", slow", slowFold(c[0], 0), c[1])
	}
}

// TestG2FoldOfRepeats asks whether Fold begins with the list of Plain.
func TestG2FoldOfRepeats(t *testing.T) {
	for _, c := range []struct {
		what string
		w    api.Workout
		want string
	}{
		{"a repeat that makes nothing shorter", workoutOf(repeat(2, lettered("a").Items...)), "w aa 0"},
		{"once", workoutOf(repeat(1, repeat(1, lettered("ab").Items...))), "w ab 0"},
		{"two repeats that are one", workoutOf(repeat(2, lettered("ab").Items...), repeat(3, lettered("ab").Items...)), "w 5(ab) 0"},
		{"what goes beyond a repeat", workoutOf(append([]api.Item{repeat(3, lettered("ab").Items...)}, lettered("ab").Items...)...), "w 4(ab) 0"},
		{"too many", workoutOf(repeat(99, lettered("aab").Items...)), "  3"},
		{"no kind", workoutOf(api.Item{}), "  7"},
	} {
		w, e := workout.Fold(c.w)
		want(t, c.what, told(w.Name, letters(w.Items), e), c.want)
	}
}

// TestG2FoldFields asks whether steps that differ in one field are taken for others.
func TestG2FoldFields(t *testing.T) {
	base := step("a", 5, percent(1, 90, 95))
	l := many(3, base)
	want(t, "equal ones", told(foldLength(l)), "1")
	for what, change := range map[string]func(x *api.Item){
		"Kind":    func(x *api.Item) { x.Kind = workout.ItemRamp },
		"Name":    func(x *api.Item) { x.Name = "A" },
		"Seconds": func(x *api.Item) { x.Seconds = 6 },
		"Way":     func(x *api.Item) { x.Seconds, x.Way = 0, 5 },
		"Measure": func(x *api.Item) { x.Aim.Measure = 2 },
		"Percent": func(x *api.Item) { x.Aim.Percent = false },
		"Low":     func(x *api.Item) { x.Aim.Low = 91 },
		"High":    func(x *api.Item) { x.Aim.High = 94 },
	} {
		l := many(3, base)
		change(&l[1])
		want(t, what, told(foldLength(l)), "3")
	}
}

func foldLength(l []api.Item) int {
	w, _ := workout.Fold(workoutOf(l...))
	return len(w.Items)
}

// TestG2PlainOfFold asks for what follows: Plain of Fold is Plain.
func TestG2PlainOfFold(t *testing.T) {
	r := rand.New(rand.NewSource(73))
	long := 0
	for range 3000 {
		w := randomWorkout(r)
		plain, e := workout.Plain(w)
		if slowCount(w.Items) > 200 {
			want(t, "a long one", told(plain, e), "{ []} 3")
			long++
			continue
		}
		want(t, fmt.Sprint("Plain ", w), told(plain.Name, slowPlain(plain.Items), e), told(w.Name, slowPlain(w.Items), 0))
		folded, e := workout.Fold(w)
		again, e1 := workout.Plain(folded)
		twice, e2 := workout.Fold(folded)
		want(t, fmt.Sprint("Fold ", w), told(workout.Check(folded), workout.Same(again, plain), workout.Same(twice, folded), e, e1, e2), "0 true true 0 0 0")
		if items, _ := places(folded.Items, 0); len(items) > len(plain.Items) {
			t.Error("longer: ", w, folded)
		}
	}
	if long < 20 || long > 2000 {
		t.Error("long ones: ", long)
	}
}

func TestG2FoldWords(t *testing.T) {
	r := rand.New(rand.NewSource(72))
	for range 4000 {
		s := string('a' + rune(r.Intn(3)))
		for range r.Intn(5) {
			switch r.Intn(3) {
			case 0:
				s += string('a' + rune(r.Intn(3)))
			case 1:
				s = strings.Repeat(s, 1+r.Intn(5))
			case 2:
				s += s[r.Intn(len(s)):]
			}
		}
		s = s[:min(len(s), 200)]
		want(t, s, fold(s), told("w", slowFold(s, 0), 0))
	}
}
