package quant

import (
	"strconv"

	"harrier/api"
)

const (
	firstYear = 2000 // of day 0
	beyond    = 5000 // a year behind that of api.MaxDay, and of all weeks
)

// months has the days of the months.
var months = [...]int{31, 28, 31, 30, 31, 30, 31, 31, 30, 31, 30, 31}

// writtenDate is a date as a text has it, and the second of this day; nobody has asked yet whether there is such a date.
type writtenDate struct{ year, month, date, second int }

func isDay(n int) bool { return n >= 0 && n <= api.MaxDay }

func isLeap(year int) bool {
	return year%4 == 0 && year%100 != 0 || year%400 == 0
}

// monthLong returns how many days a month has.
func monthLong(year, month int) int {
	if month == 2 && isLeap(year) {
		return 29
	}
	return months[month-1]
}

// newYear returns the day of the 1st of January, which is below 0 in the first year.
func newYear(year int) int {
	before := year - 1
	const firstDay = 730_121 // of the year 1 up to day 0
	return 365*before + before/4 - before/100 + before/400 - firstDay
}

// yearOf returns the year of a day, which is at least 0.
func yearOf(day int) int {
	year := firstYear + day/366
	for newYear(year+1) <= day {
		year++
	}
	return year
}

// DayOf returns the day of a date.
func DayOf(year, month, date int) (int, api.Errno) {
	if year < firstYear || year > beyond || month < 1 || month > 12 {
		return 0, api.ErrRange
	}
	if date < 1 || date > monthLong(year, month) {
		return 0, api.ErrRange
	}
	day := newYear(year) + date - 1
	for m := 1; m < month; m++ {
		day += monthLong(year, m)
	}
	if !isDay(day) {
		return 0, api.ErrRange
	}
	return day, api.OK
}

// DateOf returns the date of a day.
func DateOf(day int) (year, month, date int, e api.Errno) {
	if !isDay(day) {
		return 0, 0, 0, api.ErrRange
	}
	year, month = yearOf(day), 1
	left := day - newYear(year)
	for left >= monthLong(year, month) {
		left -= monthLong(year, month)
		month++
	}
	return year, month, left + 1, api.OK
}

// DateText writes `YYYY-MM-DD`.
func DateText(day int) (string, api.Errno) {
	year, month, date, e := DateOf(day)
	if e != api.OK {
		return "", e
	}
	return strconv.Itoa(year) + "-" + twoDigits(month) + "-" + twoDigits(date), api.OK
}

// ReadDate reads `YYYY-MM-DD`.
func ReadDate(s string) (day, at int, e api.Errno) {
	w, at, e := read(s, MaxText, dateForm)
	if e != api.OK {
		return 0, at, e
	}
	day, e = DayOf(w.year, w.month, w.date)
	return day, 0, e
}

// dateForm takes any digits, also those that are no date.
func dateForm(take taker) (w writtenDate, ok bool) {
	many := 0
	if w.year, many = digits(take, 4); many < 4 || !word(take, "-") {
		return w, false
	}
	if w.month, ok = pair(take, 99); !ok || !word(take, "-") {
		return w, false
	}
	w.date, ok = pair(take, 99)
	return w, ok
}

// Weekday returns 0 for Monday and so on to 6.
func Weekday(day int) (int, api.Errno) {
	if !isDay(day) {
		return 0, api.ErrRange
	}
	return day % 7, api.OK
}

// Week returns the week of a day, and the year to which this week belongs.
func Week(day int) (year, week int, e api.Errno) {
	if !isDay(day) {
		return 0, 0, api.ErrRange
	}
	thursday := day - day%7 + 3
	year = yearOf(thursday)
	return year, (thursday-newYear(year))/7 + 1, api.OK
}

// firstMonday returns the Monday of week 1 of a year: the week that has the 4th of January.
func firstMonday(year int) int {
	fourth := newYear(year) + 3
	return fourth - fourth%7
}

// WeekDay returns the Monday of a week.
func WeekDay(year, week int) (int, api.Errno) {
	if year < firstYear || year > beyond || week < 1 || week > 53 {
		return 0, api.ErrRange
	}
	monday := firstMonday(year) + 7*(week-1)
	if monday >= firstMonday(year+1) || !isDay(monday) {
		return 0, api.ErrRange
	}
	return monday, api.OK
}
