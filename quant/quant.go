// Package quant has quantities: numbers, texts, days, zones and sets.
package quant

const (
	MaxText     = 1_000             // bytes of a text of this chapter
	MaxShares   = 1_000             // weights
	MaxWeight   = 1_000_000         // of a share
	MaxTotal    = 1_000_000_000_000 // that is shared out, and of a set of numbers
	MaxDuration = 3_599_999         // seconds: 999:59:59
	MaxDistance = 1_000_000_000     // decimetres
	MaxPace     = 36_000            // seconds for a kilometre
	MaxChanges  = 200               // of a zone
	MaxSpans    = 1_000             // of a set
)

// Ways of rounding.
const (
	Down = 1 // to the next lesser whole number
	Up   = 2 // to the next greater one
	Zero = 3 // to the next one toward 0
	Near = 4 // to the nearest one, of two the greater one
	Even = 5 // to the nearest one, of two the even one
)
