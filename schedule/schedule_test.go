package schedule_test

import (
	"slices"
	"testing"

	"novation/api"
	"novation/schedule"
)

// P6.1

func TestCheckOfValidDescriptions(t *testing.T) {
	for _, s := range append(samples(), tooLong()...) {
		if e := schedule.Check(s); e != api.OK {
			t.Errorf("Check(%v): %d", short(s), e)
		}
	}
}

func TestCheckOfDescriptionsThatAreNotValid(t *testing.T) {
	for _, s := range notValid() {
		if e := schedule.Check(s); e != api.ErrBad {
			t.Errorf("Check(%v): %d", short(s), e)
		}
	}
}

func TestCheckAtTheBounds(t *testing.T) {
	for _, span := range [][3]int{{0, 1, 1}, {0, api.MaxDate, 1}, {api.MaxDate - 1, api.MaxDate, 1}, {1, 1, 0}, {2, 1, 0}, {0, 0, 0}, {api.MaxDate, api.MaxDate, 0}, {-1, 1, 0}, {0, api.MaxDate + 1, 0}, {api.MaxDate, api.MaxDate + 1, 0}, {-1, 0, 0}} {
		for _, months := range []int{-1, 0, 1, 2, 1199, 1200, 1201} {
			for stub := range uint8(4) {
				for roll := range uint8(7) {
					want := api.ErrBad
					if span[2] == 1 && months >= 1 && months <= 1200 && stub <= 1 && roll <= 4 {
						want = api.OK
					}
					s := api.Schedule{Start: span[0], End: span[1], Months: months, Stub: stub, Roll: roll}
					if e := schedule.Check(s); e != want {
						t.Errorf("Check(%v): %d", short(s), e)
					}
				}
			}
		}
	}
}

func TestDatesOfNamedDescriptions(t *testing.T) {
	const back, last, long = true, true, api.StubLong
	for i, k := range []struct {
		from, to   string
		months     int
		back, last bool
		stub       uint8
		want       []string
	}{
		{"2024-01-31", "2024-07-31", 1, !back, last, 0, []string{"2024-01-31", "2024-02-29", "2024-03-31", "2024-04-30", "2024-05-31", "2024-06-30", "2024-07-31"}},
		{"2024-01-31", "2024-07-31", 1, !back, last, long, []string{"2024-01-31", "2024-02-29", "2024-03-31", "2024-04-30", "2024-05-31", "2024-06-30", "2024-07-31"}},
		{"2024-01-31", "2024-05-31", 1, !back, !last, 0, []string{"2024-01-31", "2024-02-29", "2024-03-31", "2024-04-30", "2024-05-31"}},
		{"2024-01-31", "2024-05-31", 1, back, !last, long, []string{"2024-01-31", "2024-02-29", "2024-03-31", "2024-04-30", "2024-05-31"}},
		{"2024-01-15", "2024-07-01", 2, !back, !last, 0, []string{"2024-01-15", "2024-03-15", "2024-05-15", "2024-07-01"}},
		{"2024-01-15", "2024-07-01", 2, !back, !last, long, []string{"2024-01-15", "2024-03-15", "2024-07-01"}},
		{"2024-01-15", "2024-07-01", 2, back, !last, 0, []string{"2024-01-15", "2024-03-01", "2024-05-01", "2024-07-01"}},
		{"2024-01-15", "2024-07-01", 2, back, !last, long, []string{"2024-01-15", "2024-05-01", "2024-07-01"}},
		{"2024-01-15", "2024-02-14", 1, !back, !last, 0, []string{"2024-01-15", "2024-02-14"}},
		{"2024-01-15", "2024-02-14", 1, !back, !last, long, []string{"2024-01-15", "2024-02-14"}},
		{"2024-01-15", "2024-02-14", 1, back, !last, long, []string{"2024-01-15", "2024-02-14"}},
		{"2024-01-15", "2024-02-15", 1, back, !last, long, []string{"2024-01-15", "2024-02-15"}},
		{"2024-01-15", "2024-02-16", 1, !back, !last, 0, []string{"2024-01-15", "2024-02-15", "2024-02-16"}},
		{"2024-01-15", "2024-02-16", 1, !back, !last, long, []string{"2024-01-15", "2024-02-16"}},
		{"2024-01-15", "2024-02-16", 1, back, !last, 0, []string{"2024-01-15", "2024-01-16", "2024-02-16"}},
		{"2024-01-15", "2024-02-16", 1, back, !last, long, []string{"2024-01-15", "2024-02-16"}},
		// A month that is too short hides, or makes, a stub.
		{"2024-01-31", "2024-02-29", 1, !back, !last, long, []string{"2024-01-31", "2024-02-29"}},
		{"2024-01-31", "2024-02-29", 1, back, !last, 0, []string{"2024-01-31", "2024-02-29"}},
		{"2024-01-29", "2024-02-29", 1, back, !last, 0, []string{"2024-01-29", "2024-02-29"}},
		{"2024-01-29", "2024-02-29", 1, back, last, 0, []string{"2024-01-29", "2024-01-31", "2024-02-29"}},
		{"2024-01-29", "2024-02-29", 1, back, last, long, []string{"2024-01-29", "2024-02-29"}},
		{"2024-01-30", "2024-03-30", 1, !back, last, 0, []string{"2024-01-30", "2024-02-29", "2024-03-30"}},
		{"2024-02-29", "2024-05-29", 1, !back, last, 0, []string{"2024-02-29", "2024-03-31", "2024-04-30", "2024-05-29"}},
		{"2024-02-29", "2024-05-29", 1, !back, !last, 0, []string{"2024-02-29", "2024-03-29", "2024-04-29", "2024-05-29"}},
		{"2024-02-29", "2026-02-28", 12, !back, !last, long, []string{"2024-02-29", "2025-02-28", "2026-02-28"}},
		{"2023-02-28", "2025-02-28", 12, !back, last, long, []string{"2023-02-28", "2024-02-29", "2025-02-28"}},
		{"2023-02-28", "2025-02-28", 12, back, !last, long, []string{"2023-02-28", "2024-02-28", "2025-02-28"}},
		// One tenor beyond the other end.
		{"2024-01-15", "2024-07-01", 1200, !back, !last, 0, []string{"2024-01-15", "2024-07-01"}},
		{"2024-01-15", "2024-07-01", 1200, back, !last, long, []string{"2024-01-15", "2024-07-01"}},
		{"1900-01-01", "2100-01-01", 1200, !back, !last, long, []string{"1900-01-01", "2000-01-01", "2100-01-01"}},
		{"1900-01-01", "2100-01-02", 1200, !back, !last, long, []string{"1900-01-01", "2000-01-01", "2100-01-02"}},
		{"1900-01-01", "2100-01-02", 1200, back, !last, 0, []string{"1900-01-01", "1900-01-02", "2000-01-02", "2100-01-02"}},
		{"1900-01-01", "2100-01-02", 1200, back, !last, long, []string{"1900-01-01", "2000-01-02", "2100-01-02"}},
	} {
		s := api.Schedule{Start: day(k.from), End: day(k.to), Months: k.months, Back: k.back, Last: k.last, Stub: k.stub}
		if l, e := schedule.Dates(s); !slices.Equal(l, days(k.want...)) || e != api.OK {
			t.Errorf("%d: %v, %d; not %v", i, l, e, days(k.want...))
		}
	}
}

func TestDatesWhereTheNextRegularDayDoesNotExist(t *testing.T) {
	first, last := 0, api.MaxDate
	for i, k := range []struct {
		s    api.Schedule
		want []int
	}{
		{api.Schedule{Start: last - 1, End: last, Months: 1}, []int{last - 1, last}},
		{api.Schedule{Start: last - 1, End: last, Months: 1, Stub: api.StubLong}, []int{last - 1, last}},
		{api.Schedule{Start: day("2173-08-20"), End: last, Months: 1}, []int{day("2173-08-20"), day("2173-09-20"), last}},
		{api.Schedule{Start: day("2173-08-20"), End: last, Months: 1, Stub: api.StubLong}, []int{day("2173-08-20"), last}},
		{api.Schedule{Start: day("2173-08-31"), End: last, Months: 1, Last: true}, []int{day("2173-08-31"), day("2173-09-30"), last}},
		{api.Schedule{Start: day("2173-08-15"), End: last, Months: 1, Stub: api.StubLong}, []int{day("2173-08-15"), day("2173-09-15"), last}},
		{api.Schedule{Start: day("2173-08-15"), End: last - 1, Months: 1}, []int{day("2173-08-15"), day("2173-09-15"), last - 1}},
		{api.Schedule{Start: day("2173-08-15"), End: last - 1, Months: 1, Stub: api.StubLong}, []int{day("2173-08-15"), last - 1}},
		{api.Schedule{Start: day("2173-06-16"), End: day("2173-10-02"), Months: 2, Stub: api.StubLong}, []int{day("2173-06-16"), day("2173-10-02")}},
		{api.Schedule{Start: first, End: 1, Months: 1, Back: true}, []int{0, 1}},
		{api.Schedule{Start: first, End: 1, Months: 1, Back: true, Stub: api.StubLong}, []int{0, 1}},
		{api.Schedule{Start: 0, End: day("1900-03-10"), Months: 1, Back: true}, []int{0, 9, 40, 68}},
		{api.Schedule{Start: 0, End: day("1900-03-10"), Months: 1, Back: true, Stub: api.StubLong}, []int{0, 40, 68}},
		{api.Schedule{Start: 0, End: day("1900-03-01"), Months: 1, Back: true, Stub: api.StubLong}, []int{0, 31, 59}},
		{api.Schedule{Start: 0, End: day("1900-03-31"), Months: 1, Back: true, Last: true}, []int{0, 30, 58, 89}},
		{api.Schedule{Start: 0, End: day("1900-03-31"), Months: 2, Back: true, Last: true, Stub: api.StubLong}, []int{0, 89}},
		{api.Schedule{Start: 5, End: day("1900-02-05"), Months: 1, Back: true}, []int{5, 35}},
		{api.Schedule{Start: 4, End: day("1900-02-04"), Months: 1, Back: true, Stub: api.StubLong}, []int{4, 34}},
		{api.Schedule{Start: first, End: last, Months: 1200, Back: true}, []int{0, day("1973-10-15"), day("2073-10-15"), last}},
		{api.Schedule{Start: first, End: last, Months: 1200, Back: true, Stub: api.StubLong}, []int{0, day("2073-10-15"), last}},
		{api.Schedule{Start: first, End: last, Months: 1200}, []int{0, day("2000-01-01"), day("2100-01-01"), last}},
		{api.Schedule{Start: first, End: last, Months: 1200, Stub: api.StubLong}, []int{0, day("2000-01-01"), last}},
	} {
		if l, e := schedule.Dates(k.s); !slices.Equal(l, k.want) || e != api.OK {
			t.Errorf("%d: %v, %d; not %v", i, l, e, k.want)
		}
	}
}

func TestDatesOfAllSamples(t *testing.T) {
	for _, s := range append(samples(), tooLong()...) {
		want, wantE := dated(s), api.OK
		if len(want) > 100 {
			want, wantE = nil, api.ErrMany
		}
		if l, e := schedule.Dates(s); !slices.Equal(l, want) || e != wantE {
			t.Errorf("Dates(%v) = %v, %d; not %v, %d", short(s), l, e, want, wantE)
		}
	}
}

func TestDatesOfAllLengths(t *testing.T) {
	for _, from := range []int{0, 30, 58, 45320, 45349, api.MaxDate - 800} {
		for length := 1; length <= 800; length++ {
			for bits := range 24 {
				s := api.Schedule{Start: from, End: from + length, Months: bits/8 + 1, Back: bits&1 == 1, Last: bits>>1&1 == 1, Stub: uint8(bits >> 2 & 1)}
				if l, e := schedule.Dates(s); !slices.Equal(l, dated(s)) || e != api.OK {
					t.Fatalf("Dates(%v) = %v, %d", short(s), l, e)
				}
			}
		}
	}
}

func TestDatesUpToAndAboveTheirLimit(t *testing.T) {
	start := day("2000-01-10")
	for _, k := range []struct {
		to   string
		stub uint8
		n    int
	}{
		{"2008-03-10", api.StubShort, 99}, {"2008-04-09", api.StubShort, 100}, {"2008-04-10", api.StubShort, 100}, {"2008-04-11", api.StubShort, 101}, {"2008-05-10", api.StubShort, 101},
		{"2008-03-10", api.StubLong, 99}, {"2008-04-09", api.StubLong, 99}, {"2008-04-10", api.StubLong, 100}, {"2008-04-11", api.StubLong, 100}, {"2008-05-09", api.StubLong, 100}, {"2008-05-10", api.StubLong, 101}, {"2008-05-11", api.StubLong, 101}, {"2008-06-11", api.StubLong, 102},
	} {
		for bits := range 4 {
			s := api.Schedule{Start: start, End: day(k.to), Months: 1, Back: bits&1 == 1, Last: bits>>1 == 1, Stub: k.stub}
			n, wantE := k.n, api.OK
			if k.n > 100 {
				n, wantE = 0, api.ErrMany
			}
			if l, e := schedule.Dates(s); len(l) != n || e != wantE {
				t.Errorf("%s, %v: %d dates, %d", k.to, short(s), len(l), e)
			}
		}
	}
}

func TestDatesOfDescriptionsThatAreNotValid(t *testing.T) {
	for _, s := range notValid() {
		if l, e := schedule.Dates(s); len(l) != 0 || e != api.ErrBad {
			t.Errorf("Dates(%v) = %v, %d", short(s), l, e)
		}
	}
}

func TestDatesOfTooManyMonthsThatAreNotValid(t *testing.T) {
	for _, s := range tooLong() {
		s.Roll = 5
		if l, e := schedule.Dates(s); len(l) != 0 || e != api.ErrBad {
			t.Errorf("Dates(%v) = %v, %d", short(s), l, e)
		}
	}
}

func TestRollingDoesNotChangeDates(t *testing.T) {
	s := api.Schedule{Start: day("2024-03-30"), End: day("2024-06-30"), Months: 1}
	want := datesOf(t, s)
	for _, c := range calendars() {
		for roll := range uint8(5) {
			s.Cal, s.Roll = c, roll
			if l, e := schedule.Dates(s); !slices.Equal(l, want) || e != api.OK {
				t.Errorf("Dates(%v) = %v, %d", short(s), l, e)
			}
		}
	}
}

// P1

func TestCallsDoNotChangeDescriptions(t *testing.T) {
	for i, s := range append(samples(), notValid()...) {
		if i%37 != 0 && len(s.Cal.Holidays) != 4 {
			continue
		}
		whole := slices.Concat(s.Cal.Holidays, []int{-7, 3, -9})
		before := slices.Clone(whole)
		s.Cal.Holidays = whole[:len(s.Cal.Holidays)]
		schedule.Check(s)
		schedule.Dates(s)
		schedule.Periods(s)
		schedule.Find(s, s.Start)
		if !slices.Equal(whole, before) {
			t.Errorf("%v: the holidays %v became %v", short(s), before, whole)
		}
	}
}

func TestResultsShareNoMemory(t *testing.T) {
	for i, s := range samples() {
		if i%97 != 0 {
			continue
		}
		l, _ := schedule.Dates(s)
		p, _ := schedule.Periods(s)
		for i := range l {
			l[i] = -5
		}
		for i := range p {
			p[i] = api.SchedulePeriod{From: -5}
		}
		again, e := schedule.Dates(s)
		if want := dated(s); e == api.OK && !slices.Equal(again, want) {
			t.Errorf("Dates(%v) = %v after a change of former results", short(s), again)
		}
	}
}
