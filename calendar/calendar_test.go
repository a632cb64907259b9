package calendar_test

import (
	"slices"
	"testing"

	"novation/api"
	"novation/calendar"
)

// P4.1

func TestCheckOfAllWeekends(t *testing.T) {
	for w := range 256 {
		want := api.OK
		if w > 126 {
			want = api.ErrBad
		}
		for _, holidays := range [][]int{nil, {}, {0}, {3, 10, api.MaxDate}} {
			if e := calendar.Check(api.Calendar{Weekend: uint8(w), Holidays: holidays}); e != want {
				t.Errorf("Check of the weekend %d and the holidays %v: %d", w, holidays, e)
			}
		}
	}
}

func TestCheckOfHolidays(t *testing.T) {
	for _, holidays := range [][]int{
		nil, {}, {0}, {1}, {5}, {api.MaxDate}, {0, 1}, {0, api.MaxDate}, {api.MaxDate - 1, api.MaxDate}, {5, 6, 12, 13}, {0, 1, 2, 3, 4, 5, 6},
		every(0, 1, 999), every(0, 1, 1000), every(99000, 1, 1000), every(0, 100, 1000), every(99, 100, 1000),
	} {
		for _, w := range []uint8{0, 1, weekends, 126} {
			if e := calendar.Check(api.Calendar{Weekend: w, Holidays: holidays}); e != api.OK {
				t.Errorf("Check of %d holidays, %v: %d", len(holidays), holidays, e)
			}
		}
	}
}

func TestCheckOfCalendarsThatAreNotValid(t *testing.T) {
	for _, c := range notValid() {
		if e := calendar.Check(c); e != api.ErrBad {
			t.Errorf("Check(%v): %d", c, e)
		}
	}
}

func TestCheckWithOneHolidayChanged(t *testing.T) {
	for i := range api.MaxTable {
		for _, other := range []int{-1, 0, 100, api.MaxDate, api.MaxDate + 1} {
			holidays := every(200, 3, api.MaxTable)
			holidays[i] = other
			want := api.ErrBad
			if i == 0 && (other == 0 || other == 100) || i == api.MaxTable-1 && other == api.MaxDate {
				want = api.OK
			}
			if e := calendar.Check(api.Calendar{Holidays: holidays}); e != want {
				t.Errorf("Check with %d as holiday %d: %d", other, i, e)
			}
		}
	}
}

func TestBusinessOfAllDays(t *testing.T) {
	for i, c := range samples() {
		for day, want := range businessDays(c) {
			if is, e := calendar.Business(c, day); is != want || e != api.OK {
				t.Fatalf("calendar %d: Business of %d = %v, %d", i, day, is, e)
			}
		}
	}
}

func TestBusinessOfNamedDays(t *testing.T) {
	c := api.Calendar{Weekend: weekends, Holidays: days(t, "2027-01-28", "2027-01-30")}
	for text, want := range map[string]bool{
		"2027-01-25": true, "2027-01-26": true, "2027-01-27": true, "2027-01-28": false, "2027-01-29": true, "2027-01-30": false, "2027-01-31": false, "2027-02-01": true,
		"1900-01-01": true, "1900-01-05": true, "1900-01-06": false, "1900-01-07": false, "2173-10-15": true, "2173-10-10": false,
	} {
		if is := business(t, c, day(t, text)); is != want {
			t.Errorf("%s: %v", text, is)
		}
	}
}

func TestBusinessOfAllWeekends(t *testing.T) {
	for w := range uint8(127) {
		for day := 46340; day < 46354; day++ {
			if is := business(t, api.Calendar{Weekend: w}, day); is != (w>>weekday(day)&1 == 0) {
				t.Errorf("weekend %d, weekday %d: %v", w, weekday(day), is)
			}
		}
	}
}

func TestBusinessWithInvalidArguments(t *testing.T) {
	for _, c := range samples() {
		for _, day := range noDays {
			if is, e := calendar.Business(c, day); is || e != api.ErrArg {
				t.Errorf("Business(%v, %d) = %v, %d", c, day, is, e)
			}
		}
	}
	for _, c := range notValid() {
		for _, day := range append([]int{0, 4, 46340, api.MaxDate}, noDays...) {
			if is, e := calendar.Business(c, day); is || e != api.ErrBad {
				t.Errorf("Business(%v, %d) = %v, %d", c, day, is, e)
			}
		}
	}
}

func TestJoinOfNamedCalendars(t *testing.T) {
	for i, k := range []struct{ a, b, want api.Calendar }{
		{api.Calendar{}, api.Calendar{}, api.Calendar{}},
		{api.Calendar{Weekend: 96, Holidays: []int{3, 10}}, api.Calendar{Weekend: 48, Holidays: []int{1, 10, 700}}, api.Calendar{Weekend: 112, Holidays: []int{1, 3, 10, 700}}},
		{api.Calendar{Weekend: 96, Holidays: []int{5, 6}}, api.Calendar{Weekend: 96, Holidays: []int{12}}, api.Calendar{Weekend: 96, Holidays: []int{5, 6, 12}}},
		{api.Calendar{Weekend: 126}, api.Calendar{Holidays: []int{7}}, api.Calendar{Weekend: 126, Holidays: []int{7}}},
		{api.Calendar{Weekend: 42}, api.Calendar{Weekend: 84}, api.Calendar{Weekend: 126}},
		{api.Calendar{Weekend: 1}, api.Calendar{Weekend: 2}, api.Calendar{Weekend: 3}},
		{api.Calendar{Holidays: []int{0, 2, 4}}, api.Calendar{Holidays: []int{1, 3, api.MaxDate}}, api.Calendar{Holidays: []int{0, 1, 2, 3, 4, api.MaxDate}}},
		{api.Calendar{Holidays: []int{8, 9}}, api.Calendar{Holidays: []int{8, 9}}, api.Calendar{Holidays: []int{8, 9}}},
	} {
		for _, p := range [][2]api.Calendar{{k.a, k.b}, {k.b, k.a}} {
			c, e := calendar.Join(p[0], p[1])
			if c.Weekend != k.want.Weekend || !slices.Equal(c.Holidays, k.want.Holidays) || e != api.OK {
				t.Errorf("%d: %v, %d", i, c, e)
			}
		}
	}
}

func TestJoinWhereNoWeekdayIsLeft(t *testing.T) {
	many := every(0, 2, api.MaxTable)
	for i, p := range [][2]api.Calendar{
		{{Weekend: 96}, {Weekend: 31}}, {{Weekend: 126}, {Weekend: 1}}, {{Weekend: 85}, {Weekend: 42}}, {{Weekend: 126}, {Weekend: 125}}, {{Weekend: 64}, {Weekend: 63}},
		{{Weekend: 96, Holidays: []int{1, 2}}, {Weekend: 31, Holidays: []int{2, 3}}},
		{{Weekend: 96, Holidays: many}, {Weekend: 31, Holidays: every(1, 2, api.MaxTable)}},
	} {
		for _, p := range [][2]api.Calendar{p, {p[1], p[0]}} {
			if c, e := calendar.Join(p[0], p[1]); c.Weekend != 0 || len(c.Holidays) != 0 || e != api.ErrNone {
				t.Errorf("%d: %v, %d", i, c, e)
			}
		}
	}
}

func TestJoinOfAllWeekends(t *testing.T) {
	for a := range uint8(127) {
		for b := range uint8(127) {
			want, wantE := a|b, api.OK
			if want == 127 {
				want, wantE = 0, api.ErrNone
			}
			if c, e := calendar.Join(api.Calendar{Weekend: a}, api.Calendar{Weekend: b}); c.Weekend != want || len(c.Holidays) != 0 || e != wantE {
				t.Fatalf("Join of weekends %d and %d: %v, %d", a, b, c, e)
			}
		}
	}
}

func TestJoinWithManyHolidays(t *testing.T) {
	for i, k := range []struct {
		a, b, want []int
		e          api.Errno
	}{
		{every(0, 1, 1000), nil, every(0, 1, 1000), api.OK},
		{every(0, 1, 1000), every(0, 1, 1000), every(0, 1, 1000), api.OK},
		{every(0, 1, 1000), every(500, 1, 500), every(0, 1, 1000), api.OK},
		{every(0, 2, 500), every(1, 2, 500), every(0, 1, 1000), api.OK},
		{every(0, 1, 600), every(400, 1, 600), every(0, 1, 1000), api.OK},
		{every(0, 1, 999), []int{api.MaxDate}, append(every(0, 1, 999), api.MaxDate), api.OK},
		{every(0, 1, 600), every(400, 1, 601), nil, api.ErrMany},
		{every(0, 1, 1000), []int{1000}, nil, api.ErrMany},
		{every(0, 2, 501), every(1, 2, 500), nil, api.ErrMany},
		{every(0, 2, 1000), []int{5}, nil, api.ErrMany},
		{every(0, 1, 1000), every(1, 1, 1000), nil, api.ErrMany},
		{every(0, 1, 1000), every(5000, 1, 1000), nil, api.ErrMany},
	} {
		for _, w := range []uint8{0, weekends} {
			a, b := api.Calendar{Weekend: w, Holidays: k.a}, api.Calendar{Weekend: w, Holidays: k.b}
			want := w
			if k.e != api.OK {
				want = 0
			}
			for _, p := range [][2]api.Calendar{{a, b}, {b, a}} {
				if c, e := calendar.Join(p[0], p[1]); c.Weekend != want || !slices.Equal(c.Holidays, k.want) || e != k.e {
					t.Errorf("%d: weekend %d, %d holidays, %d", i, c.Weekend, len(c.Holidays), e)
				}
			}
		}
	}
}

func TestJoinOfCalendarsThatAreNotValid(t *testing.T) {
	for _, bad := range notValid() {
		for _, c := range append(notValid(), samples()...) {
			for _, p := range [][2]api.Calendar{{bad, c}, {c, bad}} {
				if c, e := calendar.Join(p[0], p[1]); c.Weekend != 0 || len(c.Holidays) != 0 || e != api.ErrBad {
					t.Errorf("Join(%v, %v) = %v, %d", p[0], p[1], c, e)
				}
			}
		}
	}
}

func TestJoinSharesNoMemory(t *testing.T) {
	for _, p := range [][2][]int{{{3, 10}, {1, 10}}, {{3, 10}, nil}, {nil, {3, 10}}, {{}, {3, 10}}, {{3, 10}, {3, 10}}, {{1, 2}, {3}}, {{5}, {1, 2}}} {
		wholes := [2][]int{slices.Concat(p[0], []int{77, 88, 99}), slices.Concat(p[1], []int{77, 88, 99})}
		before := [2][]int{slices.Clone(wholes[0]), slices.Clone(wholes[1])}
		c, e := calendar.Join(api.Calendar{Holidays: wholes[0][:len(p[0])]}, api.Calendar{Holidays: wholes[1][:len(p[1])]})
		if e != api.OK {
			t.Errorf("Join of %v and %v: %d", p[0], p[1], e)
		}
		for i := range c.Holidays[:cap(c.Holidays)] {
			c.Holidays[:cap(c.Holidays)][i] = -5
		}
		if !slices.Equal(wholes[0], before[0]) || !slices.Equal(wholes[1], before[1]) {
			t.Errorf("%v became %v", before, wholes)
		}
	}
}

func TestJoinOfACalendarWithItself(t *testing.T) {
	for i, a := range samples() {
		c, e := calendar.Join(a, a)
		if c.Weekend != a.Weekend || !slices.Equal(c.Holidays, a.Holidays) || e != api.OK {
			t.Errorf("calendar %d: %v, %d", i, c, e)
		}
	}
}

// P4.5

func TestJointBusinessDaysAreThoseOfBoth(t *testing.T) {
	l := samples()
	for i, a := range l {
		for j, b := range l {
			c, e := calendar.Join(a, b)
			if e != api.OK {
				continue
			}
			if f := calendar.Check(c); f != api.OK {
				t.Errorf("the joint calendar of %d and %d: %d", i, j, f)
			}
			for _, day := range someDays(c) {
				if is, both := business(t, c, day), business(t, a, day) && business(t, b, day); is != both {
					t.Errorf("calendars %d and %d, day %d: %v, not %v", i, j, day, is, both)
				}
			}
		}
	}
}

// P1

func TestCallsDoNotChangeCalendars(t *testing.T) {
	for _, c := range append(samples(), notValid()...) {
		spared(t, c, func(c api.Calendar) {
			calendar.Check(c)
			calendar.Join(c, c)
			for _, day := range []int{0, 5, 46413, 46416, api.MaxDate, -1} {
				calendar.Business(c, day)
				calendar.Add(c, day, 3)
				calendar.Count(c, day, 46340)
				for rule := range uint8(6) {
					calendar.Roll(c, day, rule)
				}
			}
		})
	}
}
