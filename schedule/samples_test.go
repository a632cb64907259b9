package schedule_test

import (
	"math"
	"slices"
	"testing"
	"time"

	"novation/api"
	"novation/calendar"
	"novation/schedule"
)

// day0 and the package time give the dates that the tests compare with.
var day0 = time.Date(1900, time.January, 1, 0, 0, 0, 0, time.UTC)

func dateOf(day int) time.Time {
	return day0.AddDate(0, 0, day)
}

func dayOf(t time.Time) int {
	return int(t.Sub(day0).Hours() / 24)
}

// day returns the day of a text.
func day(text string) int {
	t, err := time.Parse("2006-01-02", text)
	if err != nil {
		panic(err)
	}
	return dayOf(t)
}

func days(texts ...string) []int {
	l := make([]int, len(texts))
	for i, s := range texts {
		l[i] = day(s)
	}
	return l
}

// every returns n days from a day on, each of them step after the one before.
func every(from, step, n int) []int {
	l := make([]int, n)
	for i := range l {
		l[i] = from + i*step
	}
	return l
}

// isLast reports whether a day is the last one of its month.
func isLast(day int) bool {
	return dateOf(day).Day() == lengthOfMonth(dateOf(day))
}

func lengthOfMonth(t time.Time) int {
	return time.Date(t.Year(), t.Month()+1, 0, 0, 0, 0, 0, time.UTC).Day()
}

// monthsAway returns the day n months away from a day, and whether it exists.
func monthsAway(day, n int, last bool) (int, bool) {
	from := dateOf(day)
	first := time.Date(from.Year(), from.Month()+time.Month(n), 1, 0, 0, 0, 0, time.UTC)
	d := min(from.Day(), lengthOfMonth(first))
	if last && isLast(day) {
		d = lengthOfMonth(first)
	}
	to := dayOf(first.AddDate(0, 0, d-1))
	return to, to >= 0 && to <= api.MaxDate
}

// counted returns the regular days of s, in the order of counting, and whether there is a stub.
func counted(s api.Schedule) (regular []int, stub bool) {
	near, far, sign := s.Start, s.End, 1
	if s.Back {
		near, far, sign = s.End, s.Start, -1
	}
	regular = []int{near}
	for k := 1; ; k++ {
		day, exists := monthsAway(near, sign*k*s.Months, s.Last)
		if !exists || sign*day >= sign*far {
			return regular, !exists || day != far
		}
		regular = append(regular, day)
	}
}

// dated returns the dates of s, as the definition puts them together.
func dated(s api.Schedule) []int {
	regular, stub := counted(s)
	l := uniqueDays(slices.Concat(regular, []int{s.Start, s.End}))
	if s.Stub == api.StubLong && stub && len(l) > 2 {
		gone := slices.Max(regular)
		if s.Back {
			gone = slices.Min(regular)
		}
		l = slices.DeleteFunc(l, func(day int) bool { return day == gone })
	}
	return l
}

func uniqueDays(l []int) []int {
	slices.Sort(l)
	return slices.Compact(l)
}

// noDays are numbers that are no days.
var noDays = []int{-1, -2, -45320, api.MaxDate + 1, api.MaxDate + 2, 1 << 31, -1 << 31, 1<<32 + 45320, -1 << 32, math.MaxInt, math.MinInt, math.MinInt + 1}

// weekends is Saturday and Sunday.
const weekends = 96

// calendars are valid calendars, of which some have no business days near the first or the last day.
func calendars() []api.Calendar {
	return []api.Calendar{
		{},
		{Weekend: weekends},
		{Weekend: weekends, Holidays: days("2024-03-29", "2024-04-01", "2024-05-01", "2024-12-25")},
		{Weekend: 126},
		{Weekend: 63},
		{Holidays: every(0, 1, api.MaxTable)},
		{Holidays: every(api.MaxDate-api.MaxTable+1, 1, api.MaxTable)},
		{Weekend: weekends, Holidays: every(day("2023-12-20"), 1, 400)},
	}
}

// badCalendars are calendars that are not valid.
func badCalendars() []api.Calendar {
	return []api.Calendar{
		{Weekend: 127}, {Weekend: 128}, {Weekend: 255}, {Weekend: 127, Holidays: []int{1, 2}}, {Holidays: []int{2, 1}}, {Holidays: []int{5, 5}}, {Holidays: []int{1, 2, 2, 3}},
		{Holidays: []int{-1}}, {Holidays: []int{api.MaxDate + 1}}, {Holidays: []int{5, math.MaxInt}}, {Holidays: every(0, 1, api.MaxTable+1)}, {Weekend: weekends, Holidays: every(0, 99, api.MaxTable+1)},
	}
}

// spans are pairs of days, with regular days in the middle, near the first and near the last day, at and away from ends of months.
func spans() [][2]int {
	l := [][2]int{{0, api.MaxDate}, {0, 1}, {api.MaxDate - 1, api.MaxDate}, {0, 30}, {0, 31}, {30, 58}, {1, 400}, {30, 800}, {99600, api.MaxDate}, {api.MaxDate - 45, api.MaxDate - 14}, {api.MaxDate - 31, api.MaxDate - 2}}
	for _, from := range []string{"2024-01-15", "2024-01-31", "2024-02-28", "2024-02-29", "2023-02-28", "2024-04-30", "2024-01-30", "1900-01-31", "1900-03-31", "2173-01-31", "2172-10-16"} {
		for _, length := range []int{1, 27, 28, 29, 30, 31, 32, 59, 60, 61, 90, 180, 213, 365, 366, 367, 730, 731, 1461, 3000, 3100, 36525} {
			if to := day(from) + length; to <= api.MaxDate {
				l = append(l, [2]int{day(from), to})
			}
		}
		for _, to := range []string{"2024-02-29", "2024-03-31", "2024-06-30", "2024-07-31", "2024-12-31", "2025-01-31", "2025-02-28", "2026-02-28", "2173-09-30", "2173-10-15"} {
			if day(from) < day(to) {
				l = append(l, [2]int{day(from), day(to)})
			}
		}
	}
	return l
}

// tenors are numbers of months.
var tenors = []int{1, 2, 3, 5, 6, 12, 13, 24, 60, 600, 1199, 1200}

// samples are valid descriptions.
func samples() []api.Schedule {
	var l []api.Schedule
	cals := calendars()
	for i, span := range spans() {
		for j, months := range tenors {
			for bits := range 8 {
				l = append(l, api.Schedule{
					Start: span[0], End: span[1], Months: months, Back: bits&1 == 1, Last: bits>>1&1 == 1, Stub: uint8(bits >> 2),
					Roll: uint8((i + j + bits) % 5), Cal: cals[(2*i+j+bits)%len(cals)],
				})
			}
		}
	}
	return l
}

// notValid are descriptions that are not valid.
func notValid() []api.Schedule {
	good := api.Schedule{Start: 45304, End: 45472, Months: 2}
	var l []api.Schedule
	vary := func(change func(s *api.Schedule)) {
		s := good
		change(&s)
		l = append(l, s)
	}
	for _, c := range badCalendars() {
		vary(func(s *api.Schedule) { s.Cal = c })
	}
	for _, n := range noDays {
		vary(func(s *api.Schedule) { s.Start = n })
		vary(func(s *api.Schedule) { s.End = n })
		vary(func(s *api.Schedule) { s.Start, s.End = n, n })
		vary(func(s *api.Schedule) { s.Start, s.End = n, n+1 })
		vary(func(s *api.Schedule) { s.Start, s.End = n-1, n })
	}
	for _, n := range []int{0, -1, -2, -1200, 1201, 1202, 4000, 1 << 31, -1 << 31, 1<<32 + 2, 1<<16 + 2, math.MaxInt, math.MinInt} {
		vary(func(s *api.Schedule) { s.Months = n })
		vary(func(s *api.Schedule) { s.Months, s.Back = n, true })
	}
	for _, n := range []uint8{2, 3, 4, 127, 128, 129, 255} {
		vary(func(s *api.Schedule) { s.Stub = n })
	}
	for _, n := range []uint8{5, 6, 127, 128, 132, 255} {
		vary(func(s *api.Schedule) { s.Roll = n })
	}
	vary(func(s *api.Schedule) { s.Start = s.End })
	vary(func(s *api.Schedule) { s.Start = s.End + 1 })
	vary(func(s *api.Schedule) { s.Start, s.End = s.End, s.Start })
	vary(func(s *api.Schedule) { s.Start, s.End = 0, 0 })
	vary(func(s *api.Schedule) { s.Start, s.End = api.MaxDate, api.MaxDate })
	vary(func(s *api.Schedule) { s.Start, s.End = api.MaxDate, 0 })
	return append(l, api.Schedule{}, api.Schedule{Start: -1, End: api.MaxDate + 1, Months: 1201, Stub: 2, Roll: 5, Cal: api.Calendar{Weekend: 127}})
}

// tooLong are valid descriptions with more than MaxDates dates.
func tooLong() []api.Schedule {
	var l []api.Schedule
	for bits := range 8 {
		s := api.Schedule{Months: 1, Back: bits&1 == 1, Last: bits>>1&1 == 1, Stub: uint8(bits >> 2)}
		s.Start, s.End = 0, api.MaxDate
		l = append(l, s)
		s.Start, s.End = day("2000-01-10"), day("2008-05-10")
		l = append(l, s)
		s.Roll, s.Cal = api.RollNext, api.Calendar{Weekend: weekends, Holidays: days("2001-02-10")}
		l = append(l, s)
	}
	return l
}

func rolled(t *testing.T, s api.Schedule, day int) (int, api.Errno) {
	t.Helper()
	to, e := calendar.Roll(s.Cal, day, s.Roll)
	if e != api.OK && e != api.ErrDate {
		t.Fatalf("Roll of %d: %d", day, e)
	}
	return to, e
}

// short writes a description without its holidays.
func short(s api.Schedule) []any {
	return []any{s.Start, s.End, s.Months, s.Back, s.Last, s.Stub, s.Roll, s.Cal.Weekend, len(s.Cal.Holidays)}
}

func datesOf(t *testing.T, s api.Schedule) []int {
	t.Helper()
	l, e := schedule.Dates(s)
	if e != api.OK {
		t.Fatalf("Dates(%v): %d", short(s), e)
	}
	return l
}
