package quant

import (
	"strconv"
	"strings"

	"harrier/api"
)

const (
	maxLong  = 9_999_999 // the greatest number of 7 digits
	maxTimes = 999       // hours of a clock, minutes of a pace, kilometres in an hour
)

// lengthUnits has the units of distances, with their thousandths of a decimetre.
var lengthUnits = [...]struct {
	name        string
	thousandths int
}{
	{"m", 10_000},
	{"km", 10_000_000},
	{"yd", 9_144},
	{"mi", 16_093_440},
}

// paceUnits has what paces are told for: with num / den such ways there is a kilometre.
var paceUnits = [...]struct {
	name     string
	num, den int
}{
	{"km", 1, 1},
	{"mi", 1_000_000, 1_609_344},
	{"100m", 10, 1},
}

// twoDigits writes n, which is below 100.
func twoDigits(n int) string {
	return strconv.Itoa(n/10) + strconv.Itoa(n%10)
}

// minutesText writes `M:SS`, M without limit.
func minutesText(seconds int) string {
	return strconv.Itoa(seconds/60) + ":" + twoDigits(seconds%60)
}

// DurationText writes `H:MM:SS`, or `M:SS` below an hour.
func DurationText(seconds int) (string, api.Errno) {
	if seconds < 0 || seconds > MaxDuration {
		return "", api.ErrRange
	}
	if seconds < 3600 {
		return minutesText(seconds), api.OK
	}
	return strconv.Itoa(seconds/3600) + ":" + twoDigits(seconds/60%60) + ":" + twoDigits(seconds%60), api.OK
}

// ReadDuration reads `M:SS`, `H:MM:SS`, and parts like `1h5s`.
func ReadDuration(s string) (seconds, at int, e api.Errno) {
	short := func(take taker) (int, bool) { return inSixties(take, 0, 59, 1) }
	long := func(take taker) (int, bool) { return inSixties(take, 1, maxTimes, 2) }
	seconds, at, e = read(s, MaxText, short, long, durationParts)
	if e == api.OK && seconds > MaxDuration {
		return 0, 0, api.ErrRange
	}
	return seconds, at, e
}

// durationParts reads one to three numbers with `h`, `m` or `s`, in this order.
func durationParts(take taker) (seconds int, ok bool) {
	letters, sizes := "hms", [...]int{3600, 60, 1}
	next := 0
	for next < len(letters) {
		n, found := number(take, 0, maxLong)
		if !found {
			break
		}
		for next < len(letters) && !word(take, letters[next:next+1]) {
			next++
		}
		if next == len(letters) {
			return 0, false
		}
		seconds += n * sizes[next]
		next++
	}
	return seconds, next > 0
}

// DistanceText writes metres below a kilometre, and kilometres from it on.
func DistanceText(distance int) (string, api.Errno) {
	if distance < 0 || distance > MaxDistance {
		return "", api.ErrRange
	}
	if distance < 10_000 {
		return decimals(distance, 10, 1) + " m", api.OK
	}
	return decimals(distance, 10_000, 4) + " km", api.OK
}

// decimals writes n / unit; unit is 1 with so many zeros. Zeros at the end of the decimals are left out.
func decimals(n, unit, zeros int) string {
	text := strconv.Itoa(n / unit)
	rest := strconv.Itoa(n % unit)
	if rest == "0" {
		return text
	}
	return text + "." + strings.Repeat("0", zeros-len(rest)) + strings.TrimRight(rest, "0")
}

// ReadDistance reads a number, perhaps with decimals, and a unit.
func ReadDistance(s string) (distance, at int, e api.Errno) {
	var forms []form[int]
	for _, u := range lengthUnits {
		forms = append(forms, func(take taker) (int, bool) { return length(take, u.name, u.thousandths) })
	}
	distance, at, e = read(s, MaxText, forms...)
	if e == api.OK && distance > MaxDistance {
		return 0, 0, api.ErrRange
	}
	return distance, at, e
}

// length reads a distance with this unit, which has so many thousandths of a decimetre.
func length(take taker, unit string, thousandths int) (distance int, ok bool) {
	millionths, ok := number(take, 0, maxLong)
	if !ok {
		return 0, false
	}
	millionths *= 1_000_000
	if word(take, ".") {
		n, many := digits(take, 6)
		if many == 0 {
			return 0, false
		}
		for range 6 - many {
			n *= 10
		}
		millionths += n
	}
	word(take, " ")
	if !word(take, unit) {
		return 0, false
	}
	distance, e := Scale(millionths, thousandths, 1_000_000_000, Near)
	return distance, e == api.OK
}

func isPace(n int) bool { return n >= 1 && n <= MaxPace }

// isCovered reports whether a distance was gone, in a time that can be told.
func isCovered(distance, seconds int) bool {
	return distance >= 1 && distance <= MaxDistance && seconds >= 1 && seconds <= MaxDuration
}

// PaceOf returns the seconds for a kilometre.
func PaceOf(distance, seconds int) (int, api.Errno) {
	if !isCovered(distance, seconds) {
		return 0, api.ErrRange
	}
	pace, e := Scale(seconds, 10_000, distance, Near)
	if e == api.OK && !isPace(pace) {
		return 0, api.ErrRange
	}
	return pace, e
}

// SpeedOf returns the metres in an hour.
func SpeedOf(distance, seconds int) (int, api.Errno) {
	if !isCovered(distance, seconds) {
		return 0, api.ErrRange
	}
	return Scale(distance, 360, seconds, Near)
}

// TimeFor returns the seconds that a distance takes with a pace.
func TimeFor(distance, pace int) (int, api.Errno) {
	if distance < 0 || distance > MaxDistance || !isPace(pace) {
		return 0, api.ErrRange
	}
	return Scale(distance, pace, 10_000, Near)
}

// PaceText writes `M:SS/km`.
func PaceText(pace int) (string, api.Errno) {
	if !isPace(pace) {
		return "", api.ErrRange
	}
	return minutesText(pace) + "/km", api.OK
}

// ReadPace reads a time for a way, or a speed.
func ReadPace(s string) (pace, at int, e api.Errno) {
	forms := []form[int]{speed}
	for _, u := range paceUnits {
		forms = append(forms, func(take taker) (int, bool) { return timeFor(take, u.name, u.num, u.den) })
	}
	pace, at, e = read(s, MaxText, forms...)
	if e == api.OK && !isPace(pace) {
		return 0, 0, api.ErrRange
	}
	return pace, at, e
}

// timeFor reads the pace that is told for this unit: num / den of them are a kilometre.
func timeFor(take taker, unit string, num, den int) (pace int, ok bool) {
	seconds, ok := inSixties(take, 0, maxTimes, 1)
	if !ok || !word(take, "/") || !word(take, unit) {
		return 0, false
	}
	pace, e := Scale(seconds, num, den, Near)
	return pace, e == api.OK
}

// speed reads the pace that is told as kilometres in an hour. With a speed of 0 it is 0, which is no pace.
func speed(take taker) (pace int, ok bool) {
	tenths, ok := number(take, 0, maxTimes)
	if !ok {
		return 0, false
	}
	tenths *= 10
	if word(take, ".") {
		n, many := digits(take, 1)
		if many == 0 {
			return 0, false
		}
		tenths += n
	}
	if !word(take, " km/h") {
		return 0, false
	}
	if tenths == 0 {
		return 0, true
	}
	pace, e := Div(36_000, tenths, Near)
	return pace, e == api.OK
}
