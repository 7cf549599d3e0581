package workout

import (
	"strconv"
	"strings"

	"harrier/api"
	"harrier/quant"
)

// Print writes a line for each item.
func Print(w api.Workout) (string, api.Errno) {
	if e := Check(w); e != api.OK {
		return "", e
	}
	b := appendLines([]byte("workout "+w.Name+"\n"), w.Items, "")
	if len(b) > MaxSource {
		return "", api.ErrSize
	}
	return string(b), api.OK
}

// appendLines writes items with blanks ahead.
func appendLines(b []byte, l []api.Item, ahead string) []byte {
	for _, x := range l {
		b = append(b, ahead...)
		if x.Kind != ItemRepeat {
			b = append(b, stepText(x)+"\n"...)
			continue
		}
		b = append(b, "repeat "+strconv.Itoa(x.Times)+"\n"...)
		b = appendLines(b, x.Items, ahead+"  ")
		b = append(b, ahead+"end\n"...)
	}
	return b
}

func stepText(x api.Item) string {
	word := "step "
	if x.Kind == ItemRamp {
		word = "ramp "
	}
	text := word + x.Name + lengthText(x)
	if x.Aim.Measure != AimNone {
		text += aimText(x.Aim)
	}
	return text
}

func lengthText(x api.Item) string {
	if x.Way == 0 {
		text, _ := quant.DurationText(x.Seconds)
		return " for " + text
	}
	text, _ := quant.DistanceText(x.Way)
	return " over " + strings.ReplaceAll(text, " ", "")
}

func aimText(a api.Aim) string {
	text := " " + measures[a.Measure].word + " " + numberText(a, a.Low)
	if a.High != a.Low {
		text += "-" + numberText(a, a.High)
	}
	if a.Percent {
		text += "%"
	}
	return text
}

// numberText writes one of the numbers of an aim.
func numberText(a api.Aim, n int) string {
	if a.Measure != AimPace || a.Percent {
		return strconv.Itoa(n)
	}
	text, _ := quant.PaceText(n)
	return strings.TrimSuffix(text, "/km")
}
