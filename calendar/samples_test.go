package calendar_test

import (
	"math"
	"slices"
	"testing"
	"time"

	"novation/api"
	"novation/calendar"
	"novation/date"
)

// day0 and the package time give the weekdays and the months that the tests compare with.
var day0 = time.Date(1900, time.January, 1, 0, 0, 0, 0, time.UTC)

func dateOf(day int) time.Time {
	return day0.AddDate(0, 0, day)
}

// weekday returns the weekday of a day, from 0 (Monday) to 6 (Sunday).
func weekday(day int) int {
	return (int(dateOf(day).Weekday()) + 6) % 7
}

func inOneMonth(a, b int) bool {
	return dateOf(a).Format("2006-01") == dateOf(b).Format("2006-01")
}

// days returns the days of texts.
func days(t *testing.T, texts ...string) []int {
	l := make([]int, len(texts))
	for i, s := range texts {
		day, e := date.Parse(s)
		if e != api.OK {
			t.Fatalf("%q: %d", s, e)
		}
		l[i] = day
	}
	return l
}

func day(t *testing.T, text string) int {
	return days(t, text)[0]
}

// every returns n days from a day on, each of them step after the one before.
func every(from, step, n int) []int {
	l := make([]int, n)
	for i := range l {
		l[i] = from + i*step
	}
	return l
}

// weekends is Saturday and Sunday.
const weekends = 96

// samples are valid calendars.
func samples() []api.Calendar {
	return []api.Calendar{
		{},
		{Holidays: []int{0, api.MaxDate}},
		{Weekend: weekends},
		{Weekend: weekends, Holidays: []int{46413}},
		{Weekend: 48, Holidays: []int{1, 10, 700, 46413, 46414, 46415}},
		{Weekend: 126},
		{Weekend: 126, Holidays: every(0, 7, api.MaxTable)},
		{Weekend: 126, Holidays: every(14*7, 14, api.MaxTable)},
		{Weekend: 63, Holidays: every(99995-999*7, 7, api.MaxTable)},
		{Weekend: 95, Holidays: every(46298-500*7, 7, 700)},
		{Holidays: every(0, 1, api.MaxTable)},
		{Holidays: every(api.MaxDate-api.MaxTable+1, 1, api.MaxTable)},
		{Weekend: weekends, Holidays: every(46000, 1, api.MaxTable)},
		{Weekend: 1, Holidays: every(0, 100, api.MaxTable)},
		{Weekend: 85, Holidays: append(every(0, 1, 500), every(api.MaxDate-499, 1, 500)...)},
	}
}

// notValid are calendars that are not valid.
func notValid() []api.Calendar {
	l := []api.Calendar{
		{Weekend: 127}, {Weekend: 128}, {Weekend: 128 + weekends}, {Weekend: 254}, {Weekend: 255}, {Weekend: 127, Holidays: []int{1, 2}},
		{Holidays: every(0, 1, api.MaxTable+1)}, {Holidays: every(0, 99, api.MaxTable+1)}, {Holidays: every(0, 1, 1<<17)}, {Weekend: 127, Holidays: every(0, 1, api.MaxTable+1)},
		{Holidays: make([]int, api.MaxTable+1)},
		{Holidays: append(every(0, 1, api.MaxTable-1), api.MaxTable-2)}, {Holidays: append(every(1, 1, api.MaxTable-1), 0)},
	}
	for _, holidays := range [][]int{
		{0, 0}, {5, 5}, {3, 7, 7}, {7, 7, 9}, {3, 7, 7, 9}, {api.MaxDate, api.MaxDate}, {1, 0}, {9, 8}, {1, 3, 2}, {3, 1, 2}, {1, 4, 2, 5}, {api.MaxDate, 0}, {1, 2, 1},
		{-1}, {-1, 0}, {-1, 5}, {-2, -1}, {5, -1}, {0, -1}, {math.MinInt}, {math.MinInt, 0}, {-1 << 32},
		{api.MaxDate + 1}, {api.MaxDate, api.MaxDate + 1}, {0, api.MaxDate + 1}, {5, math.MaxInt}, {1 << 32}, {api.MaxDate + 1, api.MaxDate + 2},
	} {
		l = append(l, api.Calendar{Holidays: holidays}, api.Calendar{Weekend: weekends, Holidays: holidays})
	}
	return l
}

// noDays are numbers that are no days.
var noDays = []int{-1, -2, -7, -100000, api.MaxDate + 1, api.MaxDate + 2, 1 << 31, -1 << 31, 1 << 32, -1 << 32, 1<<32 + 5, math.MaxInt, math.MinInt, math.MinInt + 1}

// businessDays tells for each day whether it is a business day of c.
func businessDays(c api.Calendar) []bool {
	is := make([]bool, api.MaxDate+1)
	for day := range is {
		is[day] = c.Weekend&(1<<weekday(day)) == 0
	}
	for _, day := range c.Holidays {
		is[day] = false
	}
	return is
}

// listed returns the business days of c in increasing order.
func listed(c api.Calendar) []int {
	var l []int
	for day, is := range businessDays(c) {
		if is {
			l = append(l, day)
		}
	}
	return l
}

// someDays are days at which something changes: near the first and the last day, near the holidays of c, and some years of which all days are taken.
func someDays(c api.Calendar) []int {
	l := slices.Concat(every(0, 1, 60), every(api.MaxDate-59, 1, 60), every(46022, 1, 500), every(36500, 1, 70), every(60, 733, 130))
	for i, holiday := range c.Holidays {
		if i < 3 || i%50 == 0 || i >= len(c.Holidays)-3 {
			l = append(l, every(holiday-8, 1, 17)...)
		}
	}
	l = slices.DeleteFunc(l, func(day int) bool { return day < 0 || day > api.MaxDate })
	slices.Sort(l)
	return slices.Compact(l)
}

// fewDays are some of someDays, for calls that pass many days.
func fewDays(c api.Calendar) []int {
	l := []int{0, 1, api.MaxDate - 1, api.MaxDate}
	for i, day := range someDays(c) {
		if i%61 == 0 {
			l = append(l, day)
		}
	}
	slices.Sort(l)
	return slices.Compact(l)
}

// spared calls f with a copy of c that has room behind its holidays, and fails if f changes the holidays or what is in the room.
func spared(t *testing.T, c api.Calendar, f func(c api.Calendar)) {
	t.Helper()
	whole := slices.Concat(c.Holidays, []int{-7, 3, -9})
	before := slices.Clone(whole)
	f(api.Calendar{Weekend: c.Weekend, Holidays: whole[:len(c.Holidays)]})
	if !slices.Equal(whole, before) {
		t.Errorf("the holidays %v, or what is behind them, were changed to %v", before, whole)
	}
}

func business(t *testing.T, c api.Calendar, day int) bool {
	t.Helper()
	is, e := calendar.Business(c, day)
	if e != api.OK {
		t.Fatalf("Business(%v, %d): %d", c, day, e)
	}
	return is
}
