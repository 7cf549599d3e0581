package quant_test

import (
	"math"
	"testing"
	"time"

	"harrier/api"
	"harrier/quant"
)

func dateOf(day int) time.Time {
	return time.Date(2000, 1, 3+day, 0, 0, 0, 0, time.UTC)
}

func TestA6AllDays(t *testing.T) {
	for day := range api.MaxDay + 1 {
		x := dateOf(day)
		year, month, date, e := quant.DateOf(day)
		if year != x.Year() || month != int(x.Month()) || date != x.Day() || e != api.OK {
			t.Fatalf("DateOf %d: got %d %d %d %d, want %v", day, year, month, date, e, x)
		}
		if back, e := quant.DayOf(year, month, date); back != day || e != api.OK {
			t.Fatalf("DayOf %d %d %d: got %d %d, want %d", year, month, date, back, e, day)
		}
		weekday, e := quant.Weekday(day)
		if weekday != (int(x.Weekday())+6)%7 || e != api.OK {
			t.Fatalf("Weekday %d: got %d %d, want that of %v", day, weekday, e, x)
		}
		year, week := x.ISOWeek()
		if y, w, e := quant.Week(day); y != year || w != week || e != api.OK {
			t.Fatalf("Week %d: got %d %d %d, want %d %d", day, y, w, e, year, week)
		}
		if monday, e := quant.WeekDay(year, week); monday != day-weekday || e != api.OK {
			t.Fatalf("WeekDay %d %d: got %d %d, want %d", year, week, monday, e, day-weekday)
		}
	}
}

func TestA6DateTexts(t *testing.T) {
	for day := 0; day <= api.MaxDay; day += 13 {
		s, e := quant.DateText(day)
		want(t, told("DateText", day), told(s, e), dateOf(day).Format(time.DateOnly)+" 0")
		reads(t, quant.ReadDate, [][2]string{{s, told(day, 0, 0)}})
	}
	reads(t, quant.ReadDate, [][2]string{
		{"2000-01-03", "0 0 0"}, {"2000-02-29", "57 0 0"}, {"4737-11-29", "999999 0 0"}, {"4737-11-30", "0 0 9"}, {"2000-01-02", "0 0 9"}, {"1999-12-31", "0 0 9"}, {"0000-00-00", "0 0 9"}, {"9999-99-99", "0 0 9"},
		{"2000-13-01", "0 0 9"}, {"2000-00-10", "0 0 9"}, {"2001-02-29", "0 0 9"}, {"2100-02-29", "0 0 9"}, {"2001-04-31", "0 0 9"}, {"2001-04-00", "0 0 9"},
		{"2000-1-03", "0 6 6"}, {"200-01-03", "0 3 6"}, {"20000-01-03", "0 4 6"}, {"2000-01-3", "0 9 6"}, {"2000-01-030", "0 10 6"}, {"2000/01/03", "0 4 6"}, {"", "0 0 6"}, {" 2000-01-03", "0 0 6"},
	})
}

func TestA6WrongDates(t *testing.T) {
	for _, year := range []int{math.MinInt, -1, 0, 1999, 2000, 2001, 2004, 2100, 2400, 4737, 4738, 5000, 5001, math.MaxInt} {
		for month := -1; month <= 14; month++ {
			for date := -1; date <= 33; date++ {
				checkDayOf(t, year, month, date)
			}
		}
	}
	for _, n := range []int{math.MinInt, math.MaxInt, 0, 13} {
		checkDayOf(t, 2001, n, 1)
		checkDayOf(t, 2001, 1, n)
	}
}

func checkDayOf(t *testing.T, year, month, date int) {
	t.Helper()
	wanted := "0 9"
	if year >= 2000 && year <= 5000 && month >= 1 && month <= 12 && date >= 1 && date <= 31 {
		x := time.Date(year, time.Month(month), date, 0, 0, 0, 0, time.UTC)
		day := int(x.Unix()-dateOf(0).Unix()) / api.DayLong
		if x.Day() == date && x.Unix() >= dateOf(0).Unix() && day <= api.MaxDay {
			wanted = told(day, 0)
		}
	}
	day, e := quant.DayOf(year, month, date)
	want(t, told("DayOf", year, month, date), told(day, e), wanted)
}

func TestA6WrongDays(t *testing.T) {
	for _, day := range []int{math.MinInt, -1, api.MaxDay + 1, math.MaxInt} {
		year, month, date, e := quant.DateOf(day)
		want(t, told("DateOf", day), told(year, month, date, e), "0 0 0 9")
		s, e := quant.DateText(day)
		want(t, told("DateText", day), told(s, e), " 9")
		n, e := quant.Weekday(day)
		want(t, told("Weekday", day), told(n, e), "0 9")
		year, week, e := quant.Week(day)
		want(t, told("Week", day), told(year, week, e), "0 0 9")
	}
}

func TestA6Weeks(t *testing.T) {
	for _, c := range []struct {
		year, week int
		want       string
	}{
		{2000, 1, "0 0"}, {2000, 52, "357 0"}, {2000, 53, "0 9"}, {2001, 1, "364 0"}, {2004, 53, "1820 0"}, {2005, 1, "1827 0"}, {2005, 53, "0 9"}, {2001, 0, "0 9"}, {2001, -1, "0 9"}, {2001, 54, "0 9"},
		{1999, 52, "0 9"}, {1999, 1, "0 9"}, {4737, 48, "999999 0"}, {4737, 49, "0 9"}, {4738, 1, "0 9"}, {math.MinInt, 1, "0 9"}, {math.MaxInt, 1, "0 9"}, {2001, math.MaxInt, "0 9"}, {2001, math.MinInt, "0 9"}, {9999, 1, "0 9"},
	} {
		n, e := quant.WeekDay(c.year, c.week)
		want(t, told("WeekDay", c.year, c.week), told(n, e), c.want)
	}
}
