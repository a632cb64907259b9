package calendar

import (
	"iter"
	"slices"

	"novation/api"
	"novation/date"
)

const (
	wholeWeek = 1<<7 - 1 // the weekend of which every weekday is a part

	forward  = 1
	backward = -1
)

func isDay(day int) bool {
	_, e := date.Weekday(day)
	return e == api.OK
}

// checked returns ErrBad if c is not valid, or ErrArg if one of the numbers is not a day.
func checked(c api.Calendar, days ...int) api.Errno {
	if e := Check(c); e != api.OK {
		return e
	}
	for _, day := range days {
		if !isDay(day) {
			return api.ErrArg
		}
	}
	return api.OK
}

// businessOf returns a function that tells whether a day is a business day of c.
func businessOf(c api.Calendar) func(day int) bool {
	return func(day int) bool {
		weekday, e := date.Weekday(day)
		if e != api.OK || c.Weekend>>weekday&1 == 1 {
			return false
		}
		_, holiday := slices.BinarySearch(c.Holidays, day)
		return !holiday
	}
}

// daysFrom visits the days from a number on that may be just beyond the first or the last day, in one of the directions forward and backward.
func daysFrom(day, direction int) iter.Seq[int] {
	return func(yield func(int) bool) {
		for ; isDay(day); day += direction {
			if !yield(day) {
				return
			}
		}
	}
}

// nth returns the n-th business day from a number on, or ErrDate if there are fewer.
func nth(business func(day int) bool, from, direction, n int) (int, api.Errno) {
	for day := range daysFrom(from, direction) {
		if !business(day) {
			continue
		}
		if n--; n == 0 {
			return day, api.OK
		}
	}
	return 0, api.ErrDate
}

// rolled returns a day rolled with a rule, or ErrDate if there is no such business day.
func rolled(business func(day int) bool, day int, rule uint8) (int, api.Errno) {
	direction := forward
	switch rule {
	case api.RollNone:
		return day, api.OK
	case api.RollPrev, api.RollPrevSame:
		direction = backward
	}
	to, e := nth(business, day, direction, 1)
	keepsMonth := rule == api.RollNextSame || rule == api.RollPrevSame
	if keepsMonth && (e != api.OK || !sameMonth(day, to)) {
		return nth(business, day, -direction, 1)
	}
	return to, e
}

func sameMonth(a, b int) bool {
	ya, ma, _, ea := date.Parts(a)
	yb, mb, _, eb := date.Parts(b)
	return ea == api.OK && eb == api.OK && ya == yb && ma == mb
}

// between returns the number of business days from from on and before to.
func between(business func(day int) bool, from, to int) int {
	n := 0
	for day := from; day < to; day++ {
		if business(day) {
			n++
		}
	}
	return n
}
