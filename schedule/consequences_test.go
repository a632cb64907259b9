package schedule_test

import (
	"testing"

	"novation/api"
	"novation/schedule"
)

// P6.3

func TestPeriodsCoverTheTimeFromStartToEnd(t *testing.T) {
	for _, s := range samples() {
		l, e := schedule.Periods(s)
		if e != api.OK {
			continue
		}
		if l[0].From != s.Start || l[len(l)-1].To != s.End {
			t.Errorf("%v: from %d to %d", short(s), l[0].From, l[len(l)-1].To)
		}
		for i, p := range l {
			if p.From >= p.To || p.Begin > p.Finish || i > 0 && (p.From != l[i-1].To || p.Begin != l[i-1].Finish) {
				t.Errorf("%v: period %d of %v", short(s), i, l)
			}
		}
	}
}

// TestRolledDaysDoNotDecrease takes short periods, of which several may roll to the same day.
func TestRolledDaysDoNotDecrease(t *testing.T) {
	for _, c := range append(calendars(), api.Calendar{Weekend: 126, Holidays: every(day("2024-01-07"), 14, 100)}) {
		for roll := range uint8(5) {
			for start := day("2024-01-01"); start < day("2025-03-01"); start++ {
				for _, length := range []int{1, 2, 5, 32, 40, 100} {
					s := api.Schedule{Start: start, End: start + length, Months: 1, Roll: roll, Cal: c}
					l, e := schedule.Periods(s)
					if e != api.OK {
						t.Fatalf("Periods(%v): %d", short(s), e)
					}
					for _, p := range l {
						if p.Begin > p.Finish {
							t.Errorf("%v: %v", short(s), p)
						}
					}
				}
			}
		}
	}
}

func TestEveryDayIsFoundInItsPeriod(t *testing.T) {
	for i, s := range samples() {
		l, e := schedule.Periods(s)
		if e != api.OK || i%5 != 0 {
			continue
		}
		for i, p := range l {
			for _, day := range []int{p.From, (p.From + p.To) / 2, p.To - 1} {
				if n, e := schedule.Find(s, day); n != i || e != api.OK {
					t.Errorf("Find(%v, %d) = %d, %d", short(s), day, n, e)
				}
			}
		}
	}
}

// awayBy reports whether day is a whole number of times s.Months months away from the day at which counting begins.
func awayBy(s api.Schedule, day int) bool {
	near := dateOf(s.Start)
	if s.Back {
		near = dateOf(s.End)
	}
	to := dateOf(day)
	months := 12*(to.Year()-near.Year()) + int(to.Month()) - int(near.Month())
	d := min(near.Day(), lengthOfMonth(to))
	if s.Last && near.Day() == lengthOfMonth(near) {
		d = lengthOfMonth(to)
	}
	return months%s.Months == 0 && to.Day() == d && (months < 0) == s.Back
}

func TestNothingDrifts(t *testing.T) {
	for _, s := range samples() {
		l, e := schedule.Dates(s)
		if e != api.OK {
			continue
		}
		for _, day := range l[1 : len(l)-1] {
			if !awayBy(s, day) {
				t.Errorf("%v: %d of %v", short(s), day, l)
			}
		}
	}
}

func TestEndsOfMonthsAreKept(t *testing.T) {
	for _, s := range []api.Schedule{
		{Start: day("2024-02-29"), End: day("2031-02-10"), Months: 1, Last: true},
		{Start: day("2023-04-12"), End: day("2030-02-28"), Months: 1, Last: true, Back: true},
	} {
		l := datesOf(t, s)
		for _, day := range l[1 : len(l)-1] {
			if !isLast(day) {
				t.Errorf("%v: %d is not the last day of its month", short(s), day)
			}
		}
	}
}
