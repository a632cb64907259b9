package schedule_test

import (
	"slices"
	"testing"

	"novation/api"
	"novation/schedule"
)

// P6.1

func TestPeriodsOfNamedDescriptions(t *testing.T) {
	s := api.Schedule{Start: day("2024-03-30"), End: day("2024-06-30"), Months: 1, Cal: api.Calendar{Weekend: weekends, Holidays: days("2024-03-29", "2024-05-30")}}
	from := days("2024-03-30", "2024-04-30", "2024-05-30", "2024-06-30")
	for roll, want := range [][]int{
		from,
		days("2024-04-01", "2024-04-30", "2024-05-31", "2024-07-01"),
		days("2024-03-28", "2024-04-30", "2024-05-29", "2024-06-28"),
		days("2024-03-28", "2024-04-30", "2024-05-31", "2024-06-28"),
		days("2024-03-28", "2024-04-30", "2024-05-29", "2024-06-28"),
	} {
		s.Roll = uint8(roll)
		var l []api.SchedulePeriod
		for i := range 3 {
			l = append(l, api.SchedulePeriod{From: from[i], To: from[i+1], Begin: want[i], Finish: want[i+1]})
		}
		if got, e := schedule.Periods(s); !slices.Equal(got, l) || e != api.OK {
			t.Errorf("rule %d: %v, %d; not %v", roll, got, e, l)
		}
	}
}

func TestPeriodsOfOneMonthWithoutBusinessDays(t *testing.T) {
	c := api.Calendar{Holidays: every(day("2024-02-01"), 1, 29)}
	s := api.Schedule{Start: day("2024-02-05"), End: day("2024-02-20"), Months: 1, Cal: c}
	for roll, want := range [][2]string{{"2024-02-05", "2024-02-20"}, {"2024-03-01", "2024-03-01"}, {"2024-01-31", "2024-01-31"}, {"2024-01-31", "2024-01-31"}, {"2024-03-01", "2024-03-01"}} {
		s.Roll = uint8(roll)
		l := []api.SchedulePeriod{{From: s.Start, To: s.End, Begin: day(want[0]), Finish: day(want[1])}}
		if got, e := schedule.Periods(s); !slices.Equal(got, l) || e != api.OK {
			t.Errorf("rule %d: %v, %d", roll, got, e)
		}
	}
}

// periodsOf returns what Periods promises.
func periodsOf(t *testing.T, s api.Schedule) ([]api.SchedulePeriod, api.Errno) {
	l := dated(s)
	if len(l) > 100 {
		return nil, api.ErrMany
	}
	var periods []api.SchedulePeriod
	for i := range l[1:] {
		begin, e := rolled(t, s, l[i])
		finish, f := rolled(t, s, l[i+1])
		if e != api.OK || f != api.OK {
			return nil, api.ErrDate
		}
		periods = append(periods, api.SchedulePeriod{From: l[i], To: l[i+1], Begin: begin, Finish: finish})
	}
	return periods, api.OK
}

func TestPeriodsOfAllSamples(t *testing.T) {
	seen := map[api.Errno]int{}
	for _, s := range append(samples(), tooLong()...) {
		want, wantE := periodsOf(t, s)
		if l, e := schedule.Periods(s); !slices.Equal(l, want) || e != wantE {
			t.Errorf("Periods(%v) = %v, %d; not %v, %d", short(s), l, e, want, wantE)
		}
		seen[wantE]++
	}
	for _, e := range []api.Errno{api.OK, api.ErrMany, api.ErrDate} {
		if seen[e] < 20 {
			t.Errorf("the samples have only %d results with %d", seen[e], e)
		}
	}
}

func TestPeriodsWithADateThatCannotBeRolled(t *testing.T) {
	last, first := api.Calendar{Holidays: every(api.MaxDate-40, 1, 41)}, api.Calendar{Holidays: every(0, 1, 41)}
	for _, k := range []struct {
		c        api.Calendar
		from, to int
		roll     uint8
		e        api.Errno
	}{
		{last, api.MaxDate - 300, api.MaxDate - 41, api.RollNext, api.OK},
		{last, api.MaxDate - 300, api.MaxDate - 40, api.RollNext, api.ErrDate},
		{last, api.MaxDate - 300, api.MaxDate, api.RollNext, api.ErrDate},
		{last, api.MaxDate - 20, api.MaxDate, api.RollNext, api.ErrDate},
		{last, api.MaxDate - 300, api.MaxDate, api.RollNone, api.OK},
		{last, api.MaxDate - 300, api.MaxDate, api.RollPrev, api.OK},
		{last, api.MaxDate - 300, api.MaxDate, api.RollNextSame, api.OK},
		{last, api.MaxDate - 300, api.MaxDate, api.RollPrevSame, api.ErrDate},
		{first, 41, 300, api.RollPrev, api.OK},
		{first, 40, 300, api.RollPrev, api.ErrDate},
		{first, 0, 300, api.RollPrev, api.ErrDate},
		{first, 0, 20, api.RollPrev, api.ErrDate},
		{first, 0, 300, api.RollNone, api.OK},
		{first, 0, 300, api.RollNext, api.OK},
		{first, 0, 300, api.RollNextSame, api.ErrDate},
		{first, 0, 300, api.RollPrevSame, api.OK},
	} {
		for bits := range 8 {
			s := api.Schedule{Start: k.from, End: k.to, Months: 1, Back: bits&1 == 1, Last: bits>>1&1 == 1, Stub: uint8(bits >> 2), Roll: k.roll, Cal: k.c}
			l, e := schedule.Periods(s)
			if e != k.e || (e == api.OK) != (len(l) > 0) {
				t.Errorf("Periods(%v) = %v, %d", short(s), l, e)
			}
			if _, e := schedule.Dates(s); e != api.OK {
				t.Errorf("Dates(%v): %d", short(s), e)
			}
			if i, e := schedule.Find(s, s.Start); i != 0 || e != api.OK {
				t.Errorf("Find(%v, %d) = %d, %d", short(s), s.Start, i, e)
			}
		}
	}
}

func TestPeriodsWithSeveralErrors(t *testing.T) {
	for _, s := range notValid() {
		if l, e := schedule.Periods(s); len(l) != 0 || e != api.ErrBad {
			t.Errorf("Periods(%v) = %v, %d", short(s), l, e)
		}
	}
	for _, s := range tooLong() {
		s.Roll, s.Cal = api.RollNext, api.Calendar{Weekend: 126, Holidays: every(s.End, 1, min(1000, api.MaxDate-s.End+1))}
		if l, e := schedule.Periods(s); len(l) != 0 || e != api.ErrMany {
			t.Errorf("Periods(%v) = %v, %d", short(s), l, e)
		}
		s.Stub = 2
		if l, e := schedule.Periods(s); len(l) != 0 || e != api.ErrBad {
			t.Errorf("Periods(%v) = %v, %d", short(s), l, e)
		}
	}
}

// P6.2

// found returns what Find promises for a day.
func found(dates []int, day int) (int, api.Errno) {
	for i := range dates[1:] {
		if dates[i] <= day && dates[i+1] > day {
			return i, api.OK
		}
	}
	return 0, api.ErrNone
}

func checkFound(t *testing.T, s api.Schedule, dates []int, day int) {
	t.Helper()
	want, wantE := found(dates, day)
	if i, e := schedule.Find(s, day); i != want || e != wantE {
		t.Errorf("Find(%v, %d) = %d, %d; not %d, %d", short(s), day, i, e, want, wantE)
	}
}

func TestFindNamedDays(t *testing.T) {
	s := api.Schedule{Start: 45304, End: 45472, Months: 2}
	for _, k := range []struct {
		stub uint8
		day  int
		want int
		e    api.Errno
	}{
		{0, 0, 0, api.ErrNone}, {0, 45303, 0, api.ErrNone}, {0, 45304, 0, api.OK}, {0, 45305, 0, api.OK}, {0, 45363, 0, api.OK}, {0, 45364, 1, api.OK}, {0, 45365, 1, api.OK}, {0, 45424, 1, api.OK}, {0, 45425, 2, api.OK},
		{0, 45471, 2, api.OK}, {0, 45472, 0, api.ErrNone}, {0, 45473, 0, api.ErrNone}, {0, api.MaxDate, 0, api.ErrNone}, {0, api.MaxDate + 1, 0, api.ErrArg}, {0, -1, 0, api.ErrArg},
		{1, 45303, 0, api.ErrNone}, {1, 45304, 0, api.OK}, {1, 45363, 0, api.OK}, {1, 45364, 1, api.OK}, {1, 45425, 1, api.OK}, {1, 45471, 1, api.OK}, {1, 45472, 0, api.ErrNone},
	} {
		s.Stub = k.stub
		if i, e := schedule.Find(s, k.day); i != k.want || e != k.e {
			t.Errorf("Find(%v, %d) = %d, %d", short(s), k.day, i, e)
		}
	}
}

func TestFindAllDays(t *testing.T) {
	for _, s := range []api.Schedule{
		{Start: 45304, End: 45472, Months: 2}, {Start: 45304, End: 45472, Months: 2, Stub: api.StubLong, Back: true}, {Start: 0, End: 400, Months: 1, Last: true}, {Start: api.MaxDate - 500, End: api.MaxDate, Months: 3, Back: true},
		{Start: 0, End: api.MaxDate, Months: 40}, {Start: 45320, End: 45321, Months: 1}, {Start: 0, End: api.MaxDate, Months: 600, Stub: api.StubLong},
		{Start: 45304, End: 46472, Months: 1, Roll: api.RollNextSame, Cal: api.Calendar{Weekend: weekends}},
	} {
		dates := datesOf(t, s)
		for day := range api.MaxDate + 1 {
			if day%13 == 0 || day >= s.Start-50 && day <= s.Start+1500 || day >= s.End-50 && day <= s.End+50 {
				checkFound(t, s, dates, day)
			}
		}
	}
}

func TestFindInAllSamples(t *testing.T) {
	for i, s := range samples() {
		dates := dated(s)
		if len(dates) > 100 || i%3 != 0 {
			continue
		}
		for j, d := range dates {
			if j%7 == 0 || j > len(dates)-3 {
				for day := max(d-1, 0); day <= min(d+1, api.MaxDate); day++ {
					checkFound(t, s, dates, day)
				}
			}
		}
	}
}

func TestFindWithInvalidArguments(t *testing.T) {
	for _, day := range append([]int{0, 45304, 45400, api.MaxDate}, noDays...) {
		for _, s := range notValid() {
			if i, e := schedule.Find(s, day); i != 0 || e != api.ErrBad {
				t.Errorf("Find(%v, %d) = %d, %d", short(s), day, i, e)
			}
		}
		for _, s := range tooLong() {
			if i, e := schedule.Find(s, day); i != 0 || e != api.ErrMany {
				t.Errorf("Find(%v, %d) = %d, %d", short(s), day, i, e)
			}
		}
	}
	for i, s := range samples() {
		for _, day := range noDays {
			if i%50 == 0 && len(dated(s)) <= 100 {
				if i, e := schedule.Find(s, day); i != 0 || e != api.ErrArg {
					t.Errorf("Find(%v, %d) = %d, %d", short(s), day, i, e)
				}
			}
		}
	}
}
