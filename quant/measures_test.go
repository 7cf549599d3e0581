package quant_test

import (
	"fmt"
	"math"
	"math/big"
	"math/rand"
	"testing"

	"harrier/api"
	"harrier/quant"
)

// reads tries a function that reads on texts, and what it tells of them.
func reads(t *testing.T, read func(string) (int, int, api.Errno), l [][2]string) {
	t.Helper()
	for _, c := range l {
		n, at, e := read(c[0])
		want(t, c[0], told(n, at, e), c[1])
	}
}

func TestA3DurationText(t *testing.T) {
	for _, c := range []struct {
		n    int
		want string
	}{
		{0, "0:00 0"}, {7, "0:07 0"}, {60, "1:00 0"}, {599, "9:59 0"}, {3599, "59:59 0"}, {3600, "1:00:00 0"}, {3661, "1:01:01 0"},
		{36_000 + 59, "10:00:59 0"}, {quant.MaxDuration, "999:59:59 0"}, {quant.MaxDuration + 1, " 9"}, {-1, " 9"}, {math.MinInt, " 9"},
	} {
		s, e := quant.DurationText(c.n)
		want(t, told("DurationText", c.n), told(s, e), c.want)
	}
}

func TestA3ReadDuration(t *testing.T) {
	reads(t, quant.ReadDuration, [][2]string{
		{"0:00", "0 0 0"}, {"59:59", "3599 0 0"}, {"1:00:00", "3600 0 0"}, {"999:59:59", "3599999 0 0"}, {"10:09:08", "36548 0 0"},
		{"90m", "5400 0 0"}, {"1h5s", "3605 0 0"}, {"1h2m3s", "3723 0 0"}, {"2m3s", "123 0 0"}, {"0s", "0 0 0"}, {"1h0m0s", "3600 0 0"}, {"3h", "10800 0 0"},
		{"3599999s", "3599999 0 0"}, {"3600000s", "0 0 9"}, {"999h59m59s", "3599999 0 0"}, {"999h59m60s", "0 0 9"}, {"1000h", "0 0 9"}, {"9999999h9999999m9999999s", "0 0 9"},
		{"60:00", "0 5 6"}, {"5m3h", "0 3 6"}, {"1h1h", "0 3 6"}, {"1s1s", "0 2 6"}, {"1s1", "0 2 6"}, {"1h2", "0 3 6"}, {"12345678s", "0 7 6"}, {"10000000s", "0 7 6"}, {"9999999s", "0 0 9"}, {"h", "0 0 6"}, {"", "0 0 6"},
		{"0:60", "0 2 6"}, {"0:00:00", "0 4 6"}, {"1:0:00", "0 3 6"}, {"1000:00:00", "0 4 6"}, {"5:07 ", "0 4 6"}, {" 5:07", "0 0 6"}, {"-1s", "0 0 6"}, {"+1s", "0 0 6"},
	})
	for n := 0; n <= quant.MaxDuration; n += 1 + n/500 {
		s, _ := quant.DurationText(n)
		reads(t, quant.ReadDuration, [][2]string{{s, told(n, 0, 0)}})
	}
}

func TestA4DistanceText(t *testing.T) {
	for _, c := range []struct {
		n    int
		want string
	}{
		{0, "0 m 0"}, {1, "0.1 m 0"}, {10, "1 m 0"}, {125, "12.5 m 0"}, {9990, "999 m 0"}, {9999, "999.9 m 0"}, {10_000, "1 km 0"}, {10_001, "1.0001 km 0"}, {10_010, "1.001 km 0"},
		{11_000, "1.1 km 0"}, {421_950, "42.195 km 0"}, {100_000, "10 km 0"}, {quant.MaxDistance - 1, "99999.9999 km 0"}, {quant.MaxDistance, "100000 km 0"},
		{quant.MaxDistance + 1, " 9"}, {-1, " 9"}, {math.MaxInt, " 9"},
	} {
		s, e := quant.DistanceText(c.n)
		want(t, told("DistanceText", c.n), told(s, e), c.want)
	}
}

func TestA4ReadDistance(t *testing.T) {
	reads(t, quant.ReadDistance, [][2]string{
		{"12.5 m", "125 0 0"}, {"12.5m", "125 0 0"}, {"0m", "0 0 0"}, {"0.000001 km", "0 0 0"}, {"1km", "10000 0 0"}, {"42.195 km", "421950 0 0"}, {"1 mi", "16093 0 0"}, {"26.21875 mi", "421950 0 0"},
		{"1 yd", "9 0 0"}, {"100 yd", "914 0 0"}, {"440yd", "4023 0 0"}, {"0.05 m", "1 0 0"}, {"0.049999 m", "0 0 0"}, {"0.15m", "2 0 0"}, {"12.25 m", "123 0 0"}, {"0.000050 km", "1 0 0"}, {"0.00005 km", "1 0 0"},
		{"100000 km", "1000000000 0 0"}, {"100000.00004 km", "1000000000 0 0"}, {"100000.00005 km", "0 0 9"}, {"100000.0001km", "0 0 9"}, {"9999999m", "99999990 0 0"}, {"9999999.999999 mi", "0 0 9"}, {"62137.119 mi", "999999996 0 0"}, {"62138 mi", "0 0 9"},
		{"", "0 0 6"}, {".5 m", "0 0 6"}, {"1. m", "0 2 6"}, {"1.1234567 m", "0 8 6"}, {"12345678 m", "0 7 6"}, {"10000000 m", "0 7 6"}, {"01 m", "0 1 6"}, {"00.5 m", "0 1 6"}, {"1  m", "0 2 6"}, {"1 kg", "0 3 6"}, {"1 m ", "0 3 6"},
		{"1 mil", "0 4 6"}, {"1 y", "0 3 6"}, {"1 ", "0 2 6"}, {"1", "0 1 6"}, {"-1 m", "0 0 6"}, {"1,5 m", "0 1 6"}, {"1 M", "0 2 6"}, {"1.5.5 m", "0 3 6"},
	})
	for n := 0; n <= quant.MaxDistance; n += 1 + n/1000 {
		s, _ := quant.DistanceText(n)
		reads(t, quant.ReadDistance, [][2]string{{s, told(n, 0, 0)}})
	}
}

func TestA4ReadDistanceMany(t *testing.T) {
	r := rand.New(rand.NewSource(4))
	for range 5000 {
		unit := []string{"m", "km", "yd", "mi"}[r.Intn(4)]
		size := map[string]string{"m": "10", "km": "10000", "yd": "9.144", "mi": "16093.44"}[unit]
		number := fmt.Sprintf("%d.%0*d", r.Intn(1+r.Intn(60000)), 1+r.Intn(6), r.Intn(10))
		x, _ := new(big.Rat).SetString(number)
		y, _ := new(big.Rat).SetString(size)
		reads(t, quant.ReadDistance, [][2]string{{number + unit, told(rounded(x.Mul(x, y), quant.Near), 0, 0)}})
	}
}

func TestA5PaceAndSpeed(t *testing.T) {
	for _, c := range []struct {
		distance, seconds int
		pace, speed       string
	}{
		{100_000, 3000, "300 0", "12000 0"}, {10_000, 1, "1 0", "3600000 0"}, {20_000, 1, "1 0", "7200000 0"}, {20_001, 1, "0 9", "7200360 0"}, {10_000, 36_000, "36000 0", "100 0"}, {10_000, 36_001, "0 9", "100 0"},
		{20_000, 72_001, "0 9", "100 0"}, {20_001, 72_001, "35999 0", "100 0"}, {1, 720, "0 9", "1 0"}, {1, 721, "0 9", "0 0"}, {1, 3, "30000 0", "120 0"}, {4, 1, "2500 0", "1440 0"}, {1_000_000_000, 3_599_999, "36 0", "100000 0"},
		{0, 1, "0 9", "0 9"}, {-1, 1, "0 9", "0 9"}, {quant.MaxDistance + 1, 3000, "0 9", "0 9"}, {1, 0, "0 9", "0 9"}, {quant.MaxDistance, quant.MaxDuration + 1, "0 9", "0 9"},
		{math.MinInt, math.MaxInt, "0 9", "0 9"}, {quant.MaxDistance, 1, "0 9", "360000000000 0"},
	} {
		n, e := quant.PaceOf(c.distance, c.seconds)
		want(t, told("PaceOf", c.distance, c.seconds), told(n, e), c.pace)
		n, e = quant.SpeedOf(c.distance, c.seconds)
		want(t, told("SpeedOf", c.distance, c.seconds), told(n, e), c.speed)
	}
}

func TestA5TimeFor(t *testing.T) {
	for _, c := range []struct {
		distance, pace int
		want           string
	}{
		{0, 1, "0 0"}, {10_000, 300, "300 0"}, {15_000, 301, "452 0"}, {4999, 1, "0 0"}, {5000, 1, "1 0"}, {quant.MaxDistance, quant.MaxPace, "3600000000 0"},
		{-1, 1, "0 9"}, {quant.MaxDistance + 1, 1, "0 9"}, {1, 0, "0 9"}, {1, quant.MaxPace + 1, "0 9"}, {math.MaxInt, math.MaxInt, "0 9"},
	} {
		n, e := quant.TimeFor(c.distance, c.pace)
		want(t, told("TimeFor", c.distance, c.pace), told(n, e), c.want)
	}
}

func TestA5PaceText(t *testing.T) {
	for _, c := range []struct {
		pace int
		want string
	}{{1, "0:01/km 0"}, {300, "5:00/km 0"}, {309, "5:09/km 0"}, {3600, "60:00/km 0"}, {quant.MaxPace, "600:00/km 0"}, {0, " 9"}, {-1, " 9"}, {quant.MaxPace + 1, " 9"}} {
		s, e := quant.PaceText(c.pace)
		want(t, told("PaceText", c.pace), told(s, e), c.want)
	}
	for pace := 1; pace <= quant.MaxPace; pace += 7 {
		s, _ := quant.PaceText(pace)
		reads(t, quant.ReadPace, [][2]string{{s, told(pace, 0, 0)}})
	}
}

func TestA5ReadPace(t *testing.T) {
	reads(t, quant.ReadPace, [][2]string{
		{"5:00/km", "300 0 0"}, {"0:01/km", "1 0 0"}, {"600:00/km", "36000 0 0"}, {"600:01/km", "0 0 9"}, {"999:59/km", "0 0 9"}, {"0:00/km", "0 0 9"},
		{"8:00/mi", "298 0 0"}, {"0:01/mi", "1 0 0"}, {"0:00/mi", "0 0 9"}, {"999:59/mi", "0 0 9"}, {"965:36/mi", "36000 0 0"}, {"965:37/mi", "36000 0 0"}, {"965:38/mi", "0 0 9"}, {"6:26/mi", "240 0 0"},
		{"1:30/100m", "900 0 0"}, {"0:01/100m", "10 0 0"}, {"60:00/100m", "36000 0 0"}, {"60:01/100m", "0 0 9"}, {"0:00/100m", "0 0 9"},
		{"12 km/h", "300 0 0"}, {"12.0 km/h", "300 0 0"}, {"12.5 km/h", "288 0 0"}, {"0.1 km/h", "36000 0 0"}, {"0 km/h", "0 0 9"}, {"0.0 km/h", "0 0 9"}, {"999.9 km/h", "4 0 0"}, {"999 km/h", "4 0 0"}, {"7 km/h", "514 0 0"}, {"32 km/h", "113 0 0"},
		{"1000 km/h", "0 3 6"}, {"1000:00/km", "0 3 6"}, {"05:00/km", "0 1 6"}, {"5:60/km", "0 2 6"}, {"5:0/km", "0 3 6"}, {"5:00", "0 4 6"}, {"5:00/", "0 5 6"}, {"5:00/m", "0 6 6"}, {"5:00/10m", "0 7 6"}, {"5:00/100km", "0 8 6"}, {"5:00/km ", "0 7 6"},
		{"5:00 /km", "0 4 6"}, {"12km/h", "0 2 6"}, {"12  km/h", "0 3 6"}, {"12. km/h", "0 3 6"}, {"12.55 km/h", "0 4 6"}, {"012 km/h", "0 1 6"}, {"12 km/", "0 6 6"}, {"", "0 0 6"}, {"-5:00/km", "0 0 6"},
	})
}

// TestA5ReadEveryPace reads all paces that can be told, and holds them against exact quotients.
func TestA5ReadEveryPace(t *testing.T) {
	check := func(s string, pace *big.Rat) {
		n := rounded(pace, quant.Near).Int64()
		wanted := told(n, 0, 0)
		if n < 1 || n > quant.MaxPace {
			wanted = "0 0 9"
		}
		reads(t, quant.ReadPace, [][2]string{{s, wanted}})
	}
	for seconds := range 60_000 {
		clock := fmt.Sprintf("%d:%02d", seconds/60, seconds%60)
		check(clock+"/km", big.NewRat(int64(seconds), 1))
		check(clock+"/mi", big.NewRat(int64(seconds)*1_000_000, 1_609_344))
		check(clock+"/100m", big.NewRat(int64(seconds)*10, 1))
	}
	for tenths := int64(1); tenths < 10_000; tenths++ {
		check(fmt.Sprintf("%d.%d km/h", tenths/10, tenths%10), big.NewRat(36_000, tenths))
		if tenths%10 == 0 {
			check(fmt.Sprintf("%d km/h", tenths/10), big.NewRat(36_000, tenths))
		}
	}
}
