package date

import "novation/api"

const (
	daysOfWeek   = 7 // day 0 is a Monday
	monthsOfYear = 12
	february     = 2
)

// lengths are the numbers of days of the months of a year that is not a leap year.
var lengths = [monthsOfYear]int{31, 28, 31, 30, 31, 30, 31, 31, 30, 31, 30, 31}

func isDay(day int) bool {
	return day >= 0 && day <= api.MaxDate
}

func length(y, m int) int {
	if m == february && Leap(y) {
		return lengths[m-1] + 1
	}
	return lengths[m-1]
}

// leapsBefore returns the number of leap years from year 1 on that are before y.
func leapsBefore(y int) int {
	y--
	return y/4 - y/100 + y/400
}

func firstOfYear(y int) int {
	return 365*(y-api.FirstYear) + leapsBefore(y) - leapsBefore(api.FirstYear)
}

func firstOfMonth(y, m int) int {
	day := firstOfYear(y)
	for before := 1; before < m; before++ {
		day += length(y, before)
	}
	return day
}

// parts returns the date of a day. As no year has more than 366 days, the first guess at the year is never too late, and it is early by few years.
func parts(day int) (y, m, d int) {
	y = api.FirstYear + day/366
	for firstOfYear(y+1) <= day {
		y++
	}
	m, d = 1, day-firstOfYear(y)+1
	for d > length(y, m) {
		d -= length(y, m)
		m++
	}
	return y, m, d
}

// moved returns the year and the month n months after month m of year y. In the bounds of n the count of months since year 0 is never negative, so that quotient and rest are the right ones.
func moved(y, m, n int) (int, int) {
	months := y*monthsOfYear + m - 1 + n
	return months / monthsOfYear, months%monthsOfYear + 1
}
