package quant_test

import (
	"testing"

	"harrier/quant"
)

func TestLimits(t *testing.T) {
	want(t, "limits", told(quant.MaxText, quant.MaxShares, quant.MaxWeight, quant.MaxTotal, quant.MaxDuration, quant.MaxDistance, quant.MaxPace, quant.MaxChanges, quant.MaxSpans),
		"1000 1000 1000000 1000000000000 3599999 1000000000 36000 200 1000")
	want(t, "ways of rounding", told(quant.Down, quant.Up, quant.Zero, quant.Near, quant.Even), "1 2 3 4 5")
}
