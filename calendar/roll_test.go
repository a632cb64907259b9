package calendar_test

import (
	"testing"

	"novation/api"
	"novation/calendar"
)

// P4.2

// rules are the names of the rules.
var rules = []string{"none", "next", "prev", "next same", "prev same"}

// nearest returns the nearest business day from a day on in steps of 1 or -1, and whether there is one.
func nearest(is []bool, day, step int) (int, bool) {
	for ; day >= 0 && day < len(is); day += step {
		if is[day] {
			return day, true
		}
	}
	return 0, false
}

// rolled returns what Roll promises.
func rolled(is []bool, day int, rule uint8) (int, api.Errno) {
	if rule == api.RollNone {
		return day, api.OK
	}
	step := 1
	if rule == api.RollPrev || rule == api.RollPrevSame {
		step = -1
	}
	same := rule == api.RollNextSame || rule == api.RollPrevSame
	if to, ok := nearest(is, day, step); ok && (!same || inOneMonth(to, day)) {
		return to, api.OK
	}
	if to, ok := nearest(is, day, -step); ok && same {
		return to, api.OK
	}
	return 0, api.ErrDate
}

func checkRolled(t *testing.T, c api.Calendar, is []bool, day int) {
	for rule := range uint8(5) {
		want, wantE := rolled(is, day, rule)
		if got, e := calendar.Roll(c, day, rule); got != want || e != wantE {
			t.Errorf("weekend %d, %d holidays: %d rolled by %s is %d, %d; not %d, %d", c.Weekend, len(c.Holidays), day, rules[rule], got, e, want, wantE)
		}
	}
}

func TestRollDays(t *testing.T) {
	for _, c := range samples() {
		is := businessDays(c)
		for _, day := range someDays(c) {
			checkRolled(t, c, is, day)
		}
	}
}

func TestRollAllDaysOfAllWeekends(t *testing.T) {
	holidays := days(t, "2026-12-31", "2027-01-01", "2027-01-28", "2027-03-31", "2027-04-01", "2028-02-29", "2028-03-01")
	for w := range uint8(127) {
		c := api.Calendar{Weekend: w, Holidays: holidays}
		is := businessDays(c)
		for day := day(t, "2026-12-15"); day < 46900; day++ {
			checkRolled(t, c, is, day)
		}
	}
}

func TestRollNamedDays(t *testing.T) {
	c := api.Calendar{Weekend: weekends, Holidays: days(t, "2024-03-29", "2024-04-01", "2024-12-25", "2024-12-26", "2025-01-01", "2027-01-28")}
	for _, k := range []struct {
		from string
		to   [5]string
	}{
		{"2027-01-31", [5]string{"2027-01-31", "2027-02-01", "2027-01-29", "2027-01-29", "2027-01-29"}},
		{"2027-01-28", [5]string{"2027-01-28", "2027-01-29", "2027-01-27", "2027-01-29", "2027-01-27"}},
		{"2024-03-28", [5]string{"2024-03-28", "2024-03-28", "2024-03-28", "2024-03-28", "2024-03-28"}},
		{"2024-03-29", [5]string{"2024-03-29", "2024-04-02", "2024-03-28", "2024-03-28", "2024-03-28"}},
		{"2024-03-31", [5]string{"2024-03-31", "2024-04-02", "2024-03-28", "2024-03-28", "2024-03-28"}},
		{"2024-04-01", [5]string{"2024-04-01", "2024-04-02", "2024-03-28", "2024-04-02", "2024-04-02"}},
		{"2024-04-06", [5]string{"2024-04-06", "2024-04-08", "2024-04-05", "2024-04-08", "2024-04-05"}},
		{"2024-09-01", [5]string{"2024-09-01", "2024-09-02", "2024-08-30", "2024-09-02", "2024-09-02"}},
		{"2024-08-31", [5]string{"2024-08-31", "2024-09-02", "2024-08-30", "2024-08-30", "2024-08-30"}},
		{"2025-01-01", [5]string{"2025-01-01", "2025-01-02", "2024-12-31", "2025-01-02", "2025-01-02"}},
		{"2024-12-25", [5]string{"2024-12-25", "2024-12-27", "2024-12-24", "2024-12-27", "2024-12-24"}},
	} {
		from := day(t, k.from)
		for rule, want := range k.to {
			if got, e := calendar.Roll(c, from, uint8(rule)); got != day(t, want) || e != api.OK {
				t.Errorf("%s by %s: %s, not %s; %d", k.from, rules[rule], dateOf(got).Format("2006-01-02"), want, e)
			}
		}
	}
}

// TestRollToTheSameMonthOfAnotherYear has only holidays between two Mays, so that the month is the same, but not the year.
func TestRollToTheSameMonthOfAnotherYear(t *testing.T) {
	from := days(t, "2024-05-10", "2025-05-20")
	c := api.Calendar{Holidays: every(from[0]+1, 1, from[1]-from[0])}
	for _, k := range []struct {
		day  int
		rule uint8
		to   int
	}{
		{from[0] + 1, api.RollNextSame, from[0]},
		{from[0] + 1, api.RollNext, from[1] + 1},
		{from[1], api.RollPrevSame, from[1] + 1},
		{from[1], api.RollPrev, from[0]},
	} {
		if got, e := calendar.Roll(c, k.day, k.rule); got != k.to || e != api.OK {
			t.Errorf("%d by %s: %d, not %d; %d", k.day, rules[k.rule], got, k.to, e)
		}
	}
}

// TestRollWhereNoBusinessDayIsLeft has no business days up to day 39 (February 9, 1900), and from MaxDate - 39 (September 6, 2173) on.
func TestRollWhereNoBusinessDayIsLeft(t *testing.T) {
	const first, last = 40, api.MaxDate - 40
	c := api.Calendar{Holidays: append(every(0, 1, first), every(last+1, 1, api.MaxDate-last)...)}
	const none = api.ErrDate
	for _, k := range []struct {
		day int
		to  [5]int
		e   [5]api.Errno
	}{
		{0, [5]int{0, first, 0, 0, first}, [5]api.Errno{0, 0, none, none, 0}},
		{30, [5]int{30, first, 0, 0, first}, [5]api.Errno{0, 0, none, none, 0}},
		{31, [5]int{31, first, 0, first, first}, [5]api.Errno{0, 0, none, 0, 0}},
		{39, [5]int{39, first, 0, first, first}, [5]api.Errno{0, 0, none, 0, 0}},
		{40, [5]int{40, 40, 40, 40, 40}, [5]api.Errno{}},
		{last, [5]int{last, last, last, last, last}, [5]api.Errno{}},
		{last + 1, [5]int{last + 1, 0, last, last, last}, [5]api.Errno{0, none, 0, 0, 0}},
		{api.MaxDate - 15, [5]int{api.MaxDate - 15, 0, last, last, last}, [5]api.Errno{0, none, 0, 0, 0}},
		{api.MaxDate - 14, [5]int{api.MaxDate - 14, 0, last, last, 0}, [5]api.Errno{0, none, 0, 0, none}},
		{api.MaxDate, [5]int{api.MaxDate, 0, last, last, 0}, [5]api.Errno{0, none, 0, 0, none}},
	} {
		for rule := range uint8(5) {
			if got, e := calendar.Roll(c, k.day, rule); got != k.to[rule] || e != k.e[rule] {
				t.Errorf("%d by %s: %d, %d; not %d, %d", k.day, rules[rule], got, e, k.to[rule], k.e[rule])
			}
		}
	}
}

func TestRollAtTheFirstAndTheLastDay(t *testing.T) {
	// Day 0 is a Monday, MaxDate a Friday.
	for _, k := range []struct {
		c    api.Calendar
		day  int
		rule uint8
		to   int
		e    api.Errno
	}{
		{api.Calendar{Weekend: 1}, 0, api.RollNext, 1, api.OK},
		{api.Calendar{Weekend: 1}, 0, api.RollPrev, 0, api.ErrDate},
		{api.Calendar{Weekend: 1}, 0, api.RollNextSame, 1, api.OK},
		{api.Calendar{Weekend: 1}, 0, api.RollPrevSame, 1, api.OK},
		{api.Calendar{Weekend: 1}, 0, api.RollNone, 0, api.OK},
		{api.Calendar{Weekend: 16}, api.MaxDate, api.RollNext, 0, api.ErrDate},
		{api.Calendar{Weekend: 16}, api.MaxDate, api.RollPrev, api.MaxDate - 1, api.OK},
		{api.Calendar{Weekend: 16}, api.MaxDate, api.RollNextSame, api.MaxDate - 1, api.OK},
		{api.Calendar{Weekend: 16}, api.MaxDate, api.RollPrevSame, api.MaxDate - 1, api.OK},
		{api.Calendar{Weekend: 16}, api.MaxDate, api.RollNone, api.MaxDate, api.OK},
		{api.Calendar{Weekend: 126}, api.MaxDate, api.RollNext, 0, api.ErrDate},
		{api.Calendar{Weekend: 126}, api.MaxDate - 3, api.RollNext, 0, api.ErrDate},
		{api.Calendar{Weekend: 126}, api.MaxDate - 4, api.RollNext, api.MaxDate - 4, api.OK},
		{api.Calendar{Weekend: 63}, 5, api.RollPrev, 0, api.ErrDate},
		{api.Calendar{Weekend: 63}, 6, api.RollPrev, 6, api.OK},
		{api.Calendar{Weekend: 126, Holidays: every(0, 7, api.MaxTable)}, 6999, api.RollPrev, 0, api.ErrDate},
		{api.Calendar{Weekend: 126, Holidays: every(0, 7, api.MaxTable)}, 0, api.RollNext, 7000, api.OK},
		{api.Calendar{Weekend: 126, Holidays: every(0, 7, api.MaxTable)}, 0, api.RollNextSame, 0, api.ErrDate},
		{api.Calendar{Weekend: 126, Holidays: every(0, 7, api.MaxTable)}, 0, api.RollPrevSame, 7000, api.OK},
	} {
		if got, e := calendar.Roll(k.c, k.day, k.rule); got != k.to || e != k.e {
			t.Errorf("weekend %d, %d holidays: %d by %s: %d, %d; not %d, %d", k.c.Weekend, len(k.c.Holidays), k.day, rules[k.rule], got, e, k.to, k.e)
		}
	}
}

func TestRollWithInvalidArguments(t *testing.T) {
	l := []uint8{0, 1, 2, 3, 4, 5, 6, 7, 8, 127, 128, 129, 252, 255}
	for _, c := range samples() {
		for _, rule := range l {
			for _, day := range noDays {
				if got, e := calendar.Roll(c, day, rule); got != 0 || e != api.ErrArg {
					t.Errorf("Roll(%v, %d, %d) = %d, %d", c, day, rule, got, e)
				}
			}
			for _, day := range []int{0, 5, 46413, 46416, api.MaxDate} {
				if got, e := calendar.Roll(c, day, rule); rule > 4 && (got != 0 || e != api.ErrArg) {
					t.Errorf("Roll(%v, %d, %d) = %d, %d", c, day, rule, got, e)
				}
			}
		}
	}
	for _, c := range notValid() {
		for _, rule := range l {
			for _, day := range append([]int{0, 5, 46416, api.MaxDate}, noDays...) {
				if got, e := calendar.Roll(c, day, rule); got != 0 || e != api.ErrBad {
					t.Errorf("Roll(%v, %d, %d) = %d, %d", c, day, rule, got, e)
				}
			}
		}
	}
}

// P4.5

// passed returns the days from a rolled day to the day it was rolled from, without the rolled day.
func passed(from, to int) []int {
	if to < from {
		return every(to+1, 1, from-to)
	}
	return every(from, 1, to-from)
}

func TestRolledDaysAreTheNearestBusinessDays(t *testing.T) {
	for _, c := range samples() {
		for _, day := range fewDays(c) {
			for rule := uint8(1); rule <= 4; rule++ {
				to, e := calendar.Roll(c, day, rule)
				if e != api.OK {
					continue
				}
				if !business(t, c, to) {
					t.Errorf("%v: %d by %s is %d, no business day", c, day, rules[rule], to)
				}
				if rule == api.RollNext && to < day || rule == api.RollPrev && to > day {
					t.Errorf("%v: %d by %s is %d", c, day, rules[rule], to)
				}
				for _, between := range passed(day, to) {
					if business(t, c, between) {
						t.Fatalf("%v: %d by %s is %d, not %d", c, day, rules[rule], to, between)
					}
				}
			}
		}
	}
}

func TestBusinessDaysAreNotMoved(t *testing.T) {
	for _, c := range samples() {
		for _, day := range someDays(c) {
			for rule := range uint8(5) {
				to, e := calendar.Roll(c, day, rule)
				if business(t, c, day) && (to != day || e != api.OK) {
					t.Errorf("%v: the business day %d by %s is %d, %d", c, day, rules[rule], to, e)
				}
			}
		}
	}
}
