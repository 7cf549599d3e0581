package ask

import (
	"slices"

	"harrier/api"
)

// sports has the words of sports.
func sports() []string {
	return []string{api.Run: "run", api.Ride: "ride", api.Swim: "swim", api.Walk: "walk", api.Ski: "ski"}
}

// fields has the words of the numbers of rows.
func fields() []string {
	return []string{
		api.FieldStart:   "start",
		api.FieldDay:     "day",
		api.FieldWay:     "way",
		api.FieldClimb:   "climb",
		api.FieldSeconds: "seconds",
		api.FieldLoad:    "load",
		api.FieldWeekday: "weekday",
	}
}

// FieldOf returns the number of rows that has a word, if there is one.
func FieldOf(word string) (int, bool) {
	n := slices.Index(fields(), word)
	// Ahead of the first one there is an empty word.
	if n < api.FieldStart {
		return 0, false
	}
	return n, true
}

// tells has the words of what is told of a group.
func tells() []string {
	return []string{api.TellMany: "many", api.TellSum: "sum", api.TellLeast: "least", api.TellMost: "most", api.TellMean: "mean"}
}

// groups has the words of ways to group rows.
func groups() []string {
	return []string{api.GroupDay: "day", api.GroupWeek: "week", api.GroupSport: "sport", api.GroupTag: "tag"}
}
