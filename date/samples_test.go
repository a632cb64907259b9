package date_test

import (
	"math"
	"time"

	"novation/api"
)

// day0 and the package time give the dates that the tests compare with.
var day0 = time.Date(1900, time.January, 1, 0, 0, 0, 0, time.UTC)

func dateOf(day int) time.Time {
	return day0.AddDate(0, 0, day)
}

// allDates are the dates of all days.
func allDates() []time.Time {
	l := make([]time.Time, api.MaxDate+1)
	for day := range l {
		l[day] = dateOf(day)
	}
	return l
}

// isDate reports whether there is such a date in the calendar, in any year.
func isDate(y, m, d int) bool {
	t := time.Date(y, time.Month(m), d, 0, 0, 0, 0, time.UTC)
	return t.Year() == y && t.Month() == time.Month(m) && t.Day() == d
}

// dayOf returns the day of a date, and whether it is valid.
func dayOf(y, m, d int) (int, bool) {
	if !isDate(y, m, d) || y < api.FirstYear || y > api.LastYear {
		return 0, false
	}
	day := int(time.Date(y, time.Month(m), d, 0, 0, 0, 0, time.UTC).Sub(day0).Hours() / 24)
	return day, day <= api.MaxDate
}

// noDays are numbers that are no days.
var noDays = []int{-1, -2, -365, -100000, api.MaxDate + 1, api.MaxDate + 2, 146097, 1 << 31, -1 << 31, 1 << 32, -1 << 32, math.MaxInt, math.MinInt, math.MinInt + 1}

// month is a month of some day: the days of it, before and after MaxDate.
type month struct {
	first, length int
}

// months are the months from January 1900 to October 2173.
func months() []month {
	var l []month
	for y := api.FirstYear; y <= api.LastYear; y++ {
		for m := time.January; m <= time.December; m++ {
			if first, ok := dayOf(y, int(m), 1); ok {
				l = append(l, month{first, time.Date(y, m+1, 0, 0, 0, 0, 0, time.UTC).Day()})
			}
		}
	}
	return l
}

// added returns what AddMonths promises for day d (from 0 on) of month i.
func added(l []month, i, d, n int, end bool) (int, api.Errno) {
	if n < -api.MaxMonths || n > api.MaxMonths {
		return 0, api.ErrArg
	}
	to := i + n
	if to < 0 || to >= len(l) {
		return 0, api.ErrDate
	}
	last := l[to].length - 1
	if d > last || end && d == l[i].length-1 {
		d = last
	}
	if l[to].first+d > api.MaxDate {
		return 0, api.ErrDate
	}
	return l[to].first + d, api.OK
}
