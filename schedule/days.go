package schedule

import (
	"iter"
	"slices"

	"novation/api"
	"novation/calendar"
	"novation/date"
)

func isDay(day int) bool {
	_, e := date.Weekday(day)
	return e == api.OK
}

// datesOf returns the dates of a valid description, however many there are.
func datesOf(s api.Schedule) []int {
	near, far, step := s.Start, s.End, s.Months
	if s.Back {
		near, far, step = s.End, s.Start, -s.Months
	}
	days, stub := regularDays(s, near, far, step)
	// There are more than two dates if a regular day lies between near and far.
	if stub && s.Stub == api.StubLong && len(days) > 1 {
		days = days[:len(days)-1]
	}
	days = append(days, far)
	if s.Back {
		slices.Reverse(days)
	}
	return days
}

// regularDays returns the regular days in the order of counting, from near towards far, and whether there is a stub.
func regularDays(s api.Schedule, near, far, step int) (days []int, stub bool) {
	atFarEnd := func(day int) bool {
		if s.Back {
			return day <= far
		}
		return day >= far
	}
	for day := range daysFrom(near, step, s.Last) {
		if atFarEnd(day) {
			return days, day != far
		}
		days = append(days, day)
	}
	return days, true
}

// daysFrom visits a day and those that are 1, 2, 3, ... steps of months away from it, as long as they exist. Each one is counted from the first one, so that short months do not shift the later days.
func daysFrom(first, step int, last bool) iter.Seq[int] {
	return func(yield func(int) bool) {
		for k := 0; ; k++ {
			day, e := date.AddMonths(first, k*step, last)
			if e != api.OK || !yield(day) {
				return
			}
		}
	}
}

// rolledDays returns days rolled with the calendar and the rule of s, or ErrDate if one of them cannot be rolled.
func rolledDays(s api.Schedule, days []int) ([]int, api.Errno) {
	rolled := make([]int, len(days))
	for i, day := range days {
		to, e := calendar.Roll(s.Cal, day, s.Roll)
		if e != api.OK {
			return nil, e
		}
		rolled[i] = to
	}
	return rolled, api.OK
}
