package daycount

import (
	"cmp"

	"novation/api"
	"novation/date"
	"novation/rational"
)

const (
	commonYear = 365
	leapYear   = 366
	bankYear   = 360 // twelve months of bankMonth days
	bankMonth  = 30
)

// A place is a day with its date.
type place struct {
	day, y, m, d int
}

// placeOf returns a day with its date, or ErrArg if it is not a day.
func placeOf(day int) (place, api.Errno) {
	y, m, d, e := date.Parts(day)
	if e != api.OK {
		return place{}, e
	}
	return place{day, y, m, d}, api.OK
}

// counts returns the rules: the days from one place to another that is not before it.
func counts() [5]func(from, to place) int {
	return [...]func(from, to place) int{
		api.CountAct365: actual,
		api.CountAct360: actual,
		api.CountThirty: byMonths(func(begin, end int) int { return min(end, bankMonth) }),
		api.CountActAct: actual,
		api.CountBond: byMonths(func(begin, end int) int {
			if begin < bankMonth {
				return end
			}
			return min(end, bankMonth)
		}),
	}
}

func actual(from, to place) int {
	return to.day - from.day
}

// byMonths returns the rule that counts months of 30 days. The day of the month on which a period ends counts as counted says, given the one on which the period begins, the 31st as the 30th, and the one on which it ends.
func byMonths(counted func(begin, end int) int) func(from, to place) int {
	return func(from, to place) int {
		begin := min(from.d, bankMonth)
		return bankYear*(to.y-from.y) + bankMonth*(to.m-from.m) + counted(begin, to.d) - begin
	}
}

// yearsBetween returns the years from one day to another, where each day is a part of the year that it is in.
func yearsBetween(from, to int) (api.Rat, api.Errno) {
	begin, e := yearsUpTo(from)
	end, f := yearsUpTo(to)
	if e := cmp.Or(e, f); e != api.OK {
		return "", e
	}
	return rational.Sub(end, begin)
}

// yearsUpTo returns the number of the year of a day, and the part of this year that is before the day.
func yearsUpTo(day int) (api.Rat, api.Errno) {
	y, _, _, e := date.Parts(day)
	first, f := date.Of(y, 1, 1)
	if e := cmp.Or(e, f); e != api.OK {
		return "", e
	}
	length := commonYear
	if date.Leap(y) {
		length = leapYear
	}
	return rational.Ratio(y*length+day-first, length)
}
