package desk

import "harrier/api"

// A command has the forms of the words behind its own one, as words are read, and what does it. The answer is the lines that this returns, and `ok` behind them, unless they are the whole.
type command struct {
	forms   string
	do      func(x words) (lines string, e api.Errno)
	isWhole bool
}

// table has the commands by their words.
func (d *Desk) table() map[string]command {
	return map[string]command{
		"activity": {do: d.putActivity},
		"segment":  {do: d.putSegment},
		"workout":  {do: d.putWorkout},
		"veil":     {do: d.setVeil},
		"garage":   {do: d.setGarage},
		"season":   {do: d.setSeason},
		"athlete":  {forms: "nnn", do: d.setAthlete},
		"clock":    {forms: "s", do: d.setClock},
		"drop":     {forms: "w", do: d.drop},
		"edit":     {forms: "wt", do: d.edit},
		"undo":     {forms: "w", do: d.undo, isWhole: true},
		"redo":     {forms: "w", do: d.redo, isWhole: true},
		"merge":    {forms: "wws", do: d.merge},
		"rig":      {forms: "ww", do: d.setRig},
		"list":     {do: d.list},
		"show":     {forms: "w", do: d.show},
		"summary":  {forms: "w", do: d.summary},
		"board":    {forms: "w", do: d.board},
		"hold":     {forms: "ww", do: d.hold},
		"tiles":    {forms: "n", do: d.tiles},
		"see":      {forms: "nw", do: d.see},
		"total":    {forms: "n", do: d.total},
		"mount":    {forms: "wwn", do: d.mount},
		"unmount":  {forms: "wn", do: d.unmount},
		"wear":     {forms: "w", do: d.wear},
		"ask":      {forms: "t", do: d.ask},
		"watch":    {forms: "wt", do: d.watch},
		"report":   {forms: "w", do: d.report},
		"changed":  {do: d.changed},
		"badge":    {forms: "wwt", do: d.addBadge},
		"earned":   {do: d.earned},
		"form":     {forms: "n", do: d.form},
		"plan":     {do: d.plan},
	}
}
