package der_test

// P6.3 and P6.4 of times.

import (
	"math"
	"testing"
	"time"

	"ostiary/api"
	"ostiary/der"
)

func wantTime(t *testing.T, tag int, s string, want int) {
	t.Helper()
	if n, e := der.Time(prim(tag, s)); n != want || e != api.OK {
		t.Errorf("Time of %s: %d, %d, not %d", s, n, e, want)
	}
}

func wantOfTime(t *testing.T, n, tag int, s string) {
	t.Helper()
	if d, e := der.OfTime(n); !same(d, prim(tag, s)) || e != api.OK {
		t.Errorf("OfTime(%d): %v, %d, not %s", n, d, e, s)
	}
	wantTime(t, tag, s, n)
}

func wantNoTime(t *testing.T, tag int, s string) {
	t.Helper()
	wantBad(t, "the time "+s, prim(tag, s), api.ErrDerForm)
	if n, e := der.Time(prim(tag, s)); n != 0 || e != api.ErrDerKind {
		t.Errorf("Time of %s: %d, %d", s, n, e)
	}
}

func TestTimes(t *testing.T) {
	for n, s := range map[int]string{
		0: "700101000000Z", -1: "691231235959Z", 1: "700101000001Z", 86399: "700101235959Z", 951782400: "000229000000Z",
		-631152000: "500101000000Z", 2524607999: "491231235959Z", 946684799: "991231235959Z", 946684800: "000101000000Z",
	} {
		wantOfTime(t, n, api.DerUtc, s)
	}
	for n, s := range map[int]string{
		4102444800: "21000101000000Z", 2524608000: "20500101000000Z", -631152001: "19491231235959Z",
		-62167219200: "00000101000000Z", 253402300799: "99991231235959Z", -62162035201: "00000229235959Z",
	} {
		wantOfTime(t, n, api.DerTime, s)
	}
	// One that OfTime would make a DerUtc may be a DerTime.
	wantTime(t, api.DerTime, "20000229000000Z", 951782400)
	wantTime(t, api.DerTime, "19700101000000Z", 0)
	for _, n := range []int{-62167219201, 253402300800, -62167219200 - 86400, 253402300799 + 86400*366, math.MaxInt, math.MinInt, math.MaxInt - 86400, math.MinInt + 86400, 1 << 32 * 86400, -1 << 40, 1 << 40} {
		if d, e := der.OfTime(n); !isZero(d) || e != api.ErrDerForm {
			t.Errorf("OfTime(%d): %v, %d", n, d, e)
		}
	}
}

// Each day from the year 0 to the year 9999, at some second of it, as the library's calendar has it.
func TestEachDay(t *testing.T) {
	second := 0
	for day := time.Date(0, 1, 1, 0, 0, 0, 0, time.UTC); day.Year() < 10000; day = day.AddDate(0, 0, 1) {
		at := day.Add(time.Duration(second) * time.Second)
		second = (second + 35999) % 86400
		if y := day.Year(); y >= 1950 && y < 2050 {
			wantOfTime(t, int(at.Unix()), api.DerUtc, at.Format("060102150405Z"))
			wantTime(t, api.DerTime, at.Format("20060102150405Z"), int(at.Unix()))
		} else if day.Day() < 2 || day.Day() > 27 || y%100 == 0 {
			wantOfTime(t, int(at.Unix()), api.DerTime, at.Format("20060102150405Z"))
		}
	}
}

// Each second of a day.
func TestEachSecond(t *testing.T) {
	at := time.Date(2004, 2, 29, 0, 0, 0, 0, time.UTC)
	for at.Day() == 29 {
		wantOfTime(t, int(at.Unix()), api.DerUtc, at.Format("060102150405Z"))
		at = at.Add(time.Second)
	}
}

// Each two digits for month, day, hour, minute, second of some years: those that say a time, and no other.
func TestEachTwoDigits(t *testing.T) {
	two := func(n int) string { return string([]byte{byte('0' + n/10), byte('0' + n%10)}) }
	for _, year := range []string{"0000", "0001", "0100", "0400", "1900", "1999", "2000", "2023", "2024", "2049", "2100", "9996", "9999"} {
		for month := range 100 {
			for day := range 100 {
				s := year + two(month) + two(day) + "120000Z"
				if at, err := time.Parse("20060102150405Z", s); err != nil {
					wantNoTime(t, api.DerTime, s)
				} else {
					wantTime(t, api.DerTime, s, int(at.Unix()))
				}
			}
		}
	}
	for n := range 100 {
		for at, last := range map[int]int{6: 23, 8: 59, 10: 59} {
			s := "240315000000Z"
			s = s[:at] + two(n) + s[at+2:]
			if n <= last {
				at, _ := time.Parse("060102150405Z", s)
				wantTime(t, api.DerUtc, s, int(at.Unix()))
				wantTime(t, api.DerTime, "20"+s, int(at.Unix()))
			} else {
				wantNoTime(t, api.DerUtc, s)
				wantNoTime(t, api.DerTime, "20"+s)
			}
		}
	}
}

// A year of two digits is one from 1950 to 2049.
func TestShortYears(t *testing.T) {
	for year := 1950; year < 2050; year++ {
		at := time.Date(year, 3, 1, 1, 2, 3, 0, time.UTC)
		wantTime(t, api.DerUtc, at.Format("060102150405Z"), int(at.Unix()))
		feb := time.Date(year, 2, 29, 0, 0, 0, 0, time.UTC)
		if s := feb.Format("06") + "0229000000Z"; feb.Day() == 29 {
			wantTime(t, api.DerUtc, s, int(feb.Unix()))
		} else {
			wantNoTime(t, api.DerUtc, s)
		}
	}
}

// Nothing but digits and a Z, just so many.
func TestNoTimes(t *testing.T) {
	for tag, s := range map[int]string{api.DerUtc: "240229123456Z", api.DerTime: "20240229123456Z"} {
		for i := range len(s) {
			for c := range 256 {
				for _, s := range []string{s, s[:len(s)-13] + "000101000000Z"} {
					b := []byte(s)
					b[i] = byte(c)
					if i == len(s)-1 && c != 'Z' || i < len(s)-1 && (c < '0' || c > '9') {
						wantNoTime(t, tag, string(b))
					}
				}
			}
			wantNoTime(t, tag, s[:i])
			wantNoTime(t, tag, s[:i]+s[i+1:])
			wantNoTime(t, tag, s[:i]+"0"+s[i:])
		}
		for _, x := range []string{s + "Z", s + "0", s[:len(s)-1] + "z", s[:len(s)-3] + "Z", s[:len(s)-1] + ".5Z", s[:len(s)-1] + "+0000", s[:len(s)-1] + "0", "Z" + s[1:]} {
			wantNoTime(t, tag, x)
		}
	}
	wantNoTime(t, api.DerUtc, "20240229123456Z")
	wantNoTime(t, api.DerTime, "240229123456Z")
	wantNoTime(t, api.DerUtc, "000230000000Z")
	wantNoTime(t, api.DerTime, "19000229000000Z")
}
