package der

import (
	"sort"
	"strconv"
	"strings"

	"ostiary/api"
)

const (
	minuteSeconds = 60
	hourSeconds   = 60 * minuteSeconds
	daySeconds    = 24 * hourSeconds
	daysTo1970    = 719528 // from the beginning of the year 0 on
	mostYear      = 9999
	firstShort    = 1950 // of the years that have two digits
	lastShort     = 2049
	timeSize      = len("YYYYMMDDHHMMSSZ")
)

func timeOf(d api.Der) (int, error) {
	if err := checkKind(d, api.DerUtc, api.DerTime); err != nil {
		return 0, err
	}
	return readTime(d.Tag, d.Bytes)
}

// readTime is the number of a time of either tag.
func readTime(tag int, s string) (int, error) {
	switch tag {
	case api.DerUtc:
		s = century(s) + s
		fallthrough
	case api.DerTime:
		return readLongTime(s)
	}
	return 0, fault{api.ErrDerKind}
}

// century is what is missing ahead of a year of two digits.
func century(year string) string {
	if year < "5" {
		return "20"
	}
	return "19"
}

func readLongTime(s string) (int, error) {
	if len(s) != timeSize || !each(s[:timeSize-1], isDigit) || s[timeSize-1] != 'Z' {
		return 0, fault{api.ErrDerForm}
	}
	year, month, day := decimal(s[:4]), decimal(s[4:6]), decimal(s[6:8])
	hour, minute, second := decimal(s[8:10]), decimal(s[10:12]), decimal(s[12:14])
	if month < 1 || month > 12 || day < 1 || day > monthDays(year, month) {
		return 0, fault{api.ErrDerForm}
	}
	if hour > 23 || minute > 59 || second > 59 {
		return 0, fault{api.ErrDerForm}
	}
	days := daysBefore(year) + day - 1
	for m := 1; m < month; m++ {
		days += monthDays(year, m)
	}
	return (days-daysTo1970)*daySeconds + hour*hourSeconds + minute*minuteSeconds + second, nil
}

// decimal is the number that a few digits say.
func decimal(digits string) int {
	n := 0
	for i := range len(digits) {
		n = 10*n + int(digits[i]-'0')
	}
	return n
}

// daysBefore is how many days there are from the beginning of the year 0 to that of another one behind it.
func daysBefore(year int) int {
	return 365*year + (year+3)/4 - (year+99)/100 + (year+399)/400
}

func monthDays(year, month int) int {
	switch month {
	case 2:
		return daysBefore(year+1) - daysBefore(year) - 337 // the days of all others
	case 4, 6, 9, 11:
		return 30
	}
	return 31
}

func ofTime(t int) (api.Der, error) {
	if t < -daysTo1970*daySeconds || t >= (daysBefore(mostYear+1)-daysTo1970)*daySeconds {
		return api.Der{}, fault{api.ErrDerForm}
	}
	t += daysTo1970 * daySeconds
	year, month, day := dateOf(t / daySeconds)
	t %= daySeconds
	s := padded(year, 4) + padded(month, 2) + padded(day, 2)
	s += padded(t/hourSeconds, 2) + padded(t%hourSeconds/minuteSeconds, 2) + padded(t%minuteSeconds, 2) + "Z"
	if year >= firstShort && year <= lastShort {
		return api.Der{Tag: api.DerUtc, Bytes: s[2:]}, nil
	}
	return api.Der{Tag: api.DerTime, Bytes: s}, nil
}

// dateOf is the date so many days behind the beginning of the year 0.
func dateOf(days int) (year, month, day int) {
	year = sort.Search(mostYear, func(y int) bool { return daysBefore(y+1) > days })
	days -= daysBefore(year)
	month = 1
	for days >= monthDays(year, month) {
		days -= monthDays(year, month)
		month++
	}
	return year, month, days + 1
}

func padded(n, size int) string {
	s := strconv.Itoa(n)
	return strings.Repeat("0", size-len(s)) + s
}
