package calendar_test

import (
	"math"
	"slices"
	"testing"

	"novation/api"
	"novation/calendar"
)

// P4.3

// steps are numbers of business days to add.
var steps = []int{0, 1, -1, 2, -2, 3, -3, 4, -4, 5, -5, 6, -6, 7, -7, 20, -20}

// leaps are further ones that pass many days, or are out of range.
var leaps = []int{
	250, -250, 999, -999, 1000, -1000, 1001, -1001, 14285, -14285, 14286, -14286, 14287, -14287, 71429, -71429, 71430, -71430,
	99998, -99998, 99999, -99999, 100000, -100000, 100001, -100001, math.MaxInt, math.MinInt, 1<<32 + 1, -1<<32 - 1,
}

// added returns what Add promises; l are the business days.
func added(l []int, day, n int) (int, api.Errno) {
	i, found := slices.BinarySearch(l, day)
	switch {
	case n < -99999 || n > 99999:
		return 0, api.ErrArg
	case n > 0 && found:
		i += n
	case n > 0:
		i += n - 1
	case n < 0:
		i += n
	}
	if i < 0 || i >= len(l) {
		return 0, api.ErrDate
	}
	return l[i], api.OK
}

func TestAddBusinessDays(t *testing.T) {
	for _, c := range samples() {
		l := listed(c)
		checkAdded(t, c, l, someDays(c), steps)
		checkAdded(t, c, l, fewDays(c), leaps)
	}
}

func checkAdded(t *testing.T, c api.Calendar, l, days, numbers []int) {
	for _, day := range days {
		for _, n := range numbers {
			want, wantE := added(l, day, n)
			if got, e := calendar.Add(c, day, n); got != want || e != wantE {
				t.Errorf("weekend %d, %d holidays: Add of %d to %d = %d, %d; not %d, %d", c.Weekend, len(c.Holidays), n, day, got, e, want, wantE)
			}
		}
	}
}

func TestAddToNamedDays(t *testing.T) {
	c := api.Calendar{Weekend: weekends, Holidays: []int{46413}}
	for _, k := range [][3]int{
		{46412, 1, 46414}, {46412, 2, 46417}, {46412, 0, 46412}, {46413, 0, 46414}, {46413, 1, 46414}, {46413, -1, 46412}, {46414, -1, 46412},
		{46415, 0, 46417}, {46415, 1, 46417}, {46415, -1, 46414}, {46416, 0, 46417}, {46416, 1, 46417}, {46416, 2, 46418}, {46416, -1, 46414}, {46416, -2, 46412}, {46417, -1, 46414}, {46417, 1, 46418},
		{0, 0, 0}, {0, 1, 1}, {1, -1, 0}, {5, -1, 4}, {api.MaxDate, 0, api.MaxDate}, {api.MaxDate, -1, api.MaxDate - 1}, {api.MaxDate - 1, 1, api.MaxDate},
	} {
		if got, e := calendar.Add(c, k[0], k[1]); got != k[2] || e != api.OK {
			t.Errorf("Add of %d to %d = %d, %d", k[1], k[0], got, e)
		}
	}
}

func TestAddFromEndToEnd(t *testing.T) {
	last := api.MaxDate
	for _, k := range []struct {
		c         api.Calendar
		day, n    int
		to        int
		wantError api.Errno
	}{
		{api.Calendar{}, 0, last, last, api.OK},
		{api.Calendar{}, last, -last, 0, api.OK},
		{api.Calendar{}, 0, last - 1, last - 1, api.OK},
		{api.Calendar{}, last, 1 - last, 1, api.OK},
		{api.Calendar{}, 1, last - 1, last, api.OK},
		{api.Calendar{}, 1, last, 0, api.ErrDate},
		{api.Calendar{}, last - 1, -last, 0, api.ErrDate},
		{api.Calendar{}, last - 1, 1 - last, 0, api.OK},
		{api.Calendar{}, 0, last + 1, 0, api.ErrArg},
		{api.Calendar{}, last, -last - 1, 0, api.ErrArg},
		{api.Calendar{}, last, last, 0, api.ErrDate},
		{api.Calendar{}, 0, -last, 0, api.ErrDate},
		{api.Calendar{}, 0, -1, 0, api.ErrDate},
		{api.Calendar{}, last, 1, 0, api.ErrDate},
		{api.Calendar{Holidays: []int{last}}, 0, last, 0, api.ErrDate},
		{api.Calendar{Holidays: []int{last}}, 0, last - 1, last - 1, api.OK},
		{api.Calendar{Holidays: []int{0}}, last, -last, 0, api.ErrDate},
		{api.Calendar{Holidays: []int{0}}, last, 1 - last, 1, api.OK},
		{api.Calendar{Holidays: []int{0}}, 0, last, last, api.OK},
		{api.Calendar{Holidays: []int{last}}, last, -last, 0, api.OK},
		{api.Calendar{Holidays: []int{last}}, last, 0, 0, api.ErrDate},
		{api.Calendar{Holidays: []int{0}}, 0, 0, 1, api.OK},
		{api.Calendar{Holidays: []int{0, last}}, 1, -1, 0, api.ErrDate},
		{api.Calendar{Holidays: []int{0, last}}, last - 1, 1, 0, api.ErrDate},
		{api.Calendar{Weekend: 126}, 0, 14285, last - 4, api.OK},
		{api.Calendar{Weekend: 126}, 0, 14286, 0, api.ErrDate},
		{api.Calendar{Weekend: 126}, last, -14286, 0, api.OK},
		{api.Calendar{Weekend: 126}, last, -14287, 0, api.ErrDate},
		{api.Calendar{Weekend: 126}, last, 0, 0, api.ErrDate},
		{api.Calendar{Weekend: 126}, last - 4, 0, last - 4, api.OK},
		{api.Calendar{Weekend: weekends}, 0, 71429, last, api.OK},
		{api.Calendar{Weekend: weekends}, 0, 71430, 0, api.ErrDate},
	} {
		if got, e := calendar.Add(k.c, k.day, k.n); got != k.to || e != k.wantError {
			t.Errorf("weekend %d, holidays %v: Add of %d to %d = %d, %d; not %d, %d", k.c.Weekend, k.c.Holidays, k.n, k.day, got, e, k.to, k.wantError)
		}
	}
}

func TestAddWithInvalidArguments(t *testing.T) {
	numbers := []int{0, 1, -1, 99999, -99999, 100000, -100000, math.MaxInt, math.MinInt}
	for _, c := range samples() {
		for _, n := range numbers {
			for _, day := range noDays {
				if got, e := calendar.Add(c, day, n); got != 0 || e != api.ErrArg {
					t.Errorf("Add(%v, %d, %d) = %d, %d", c, day, n, got, e)
				}
			}
		}
	}
	for _, c := range notValid() {
		for _, n := range numbers {
			for _, day := range append([]int{0, 5, 46340, api.MaxDate}, noDays...) {
				if got, e := calendar.Add(c, day, n); got != 0 || e != api.ErrBad {
					t.Errorf("Add(%v, %d, %d) = %d, %d", c, day, n, got, e)
				}
			}
		}
	}
}

// P4.4

func TestCountBusinessDays(t *testing.T) {
	for _, c := range samples() {
		before := before(c)
		l := someDays(c)
		for i, from := range l {
			checkCounted(t, c, before, from, from)
			checkCounted(t, c, before, from, l[min(i+1, len(l)-1)])
			checkCounted(t, c, before, from, l[max(i-20, 0)])
		}
		l = fewDays(c)
		for i, from := range l {
			checkCounted(t, c, before, from, l[(i+7)%len(l)])
			checkCounted(t, c, before, from, l[(i*3+40)%len(l)])
		}
	}
}

// before returns for each day the number of business days before it.
func before(c api.Calendar) []int {
	l := []int{0}
	for _, is := range businessDays(c) {
		n := l[len(l)-1]
		if is {
			n++
		}
		l = append(l, n)
	}
	return l
}

func checkCounted(t *testing.T, c api.Calendar, before []int, from, to int) {
	want := before[to] - before[from]
	if n, e := calendar.Count(c, from, to); n != want || e != api.OK {
		t.Errorf("weekend %d, %d holidays: Count from %d to %d = %d, %d; not %d", c.Weekend, len(c.Holidays), from, to, n, e, want)
	}
}

func TestCountBetweenNamedDays(t *testing.T) {
	last := api.MaxDate
	c := api.Calendar{Weekend: weekends, Holidays: []int{46413}}
	for _, k := range []struct {
		c           api.Calendar
		from, to, n int
	}{
		{c, 46411, 46418, 4}, {c, 46418, 46411, -4}, {c, 46411, 46411, 0}, {c, 46413, 46413, 0}, {c, 46411, 46412, 1}, {c, 46412, 46411, -1}, {c, 46413, 46414, 0}, {c, 46414, 46413, 0},
		{c, 46412, 46414, 1}, {c, 46414, 46412, -1}, {c, 46414, 46415, 1}, {c, 46415, 46417, 0}, {c, 46417, 46415, 0}, {c, 46416, 46418, 1}, {c, 0, 0, 0}, {c, last, last, 0}, {c, 0, 1, 1}, {c, 1, 0, -1}, {c, last - 1, last, 1}, {c, last, last - 1, -1},
		{api.Calendar{}, 0, last, last}, {api.Calendar{}, last, 0, -last}, {api.Calendar{Holidays: []int{0, last}}, 0, last, last - 1}, {api.Calendar{Holidays: []int{0, last}}, last, 0, 1 - last},
		{api.Calendar{Weekend: 126}, 0, last, 14286}, {api.Calendar{Weekend: 126}, last, 0, -14286}, {api.Calendar{Weekend: weekends}, 0, last, 71429},
	} {
		if n, e := calendar.Count(k.c, k.from, k.to); n != k.n || e != api.OK {
			t.Errorf("weekend %d, holidays %v: Count from %d to %d = %d, %d; not %d", k.c.Weekend, k.c.Holidays, k.from, k.to, n, e, k.n)
		}
	}
}

func TestCountWithInvalidArguments(t *testing.T) {
	for _, c := range samples() {
		for _, day := range noDays {
			for _, other := range append([]int{0, 46340, api.MaxDate}, noDays...) {
				for _, p := range [][2]int{{day, other}, {other, day}} {
					if n, e := calendar.Count(c, p[0], p[1]); n != 0 || e != api.ErrArg {
						t.Errorf("Count(%v, %d, %d) = %d, %d", c, p[0], p[1], n, e)
					}
				}
			}
		}
	}
	for _, c := range notValid() {
		for _, from := range append([]int{0, 46340, api.MaxDate}, noDays...) {
			for _, to := range []int{0, 46341, api.MaxDate, -1, api.MaxDate + 1} {
				if n, e := calendar.Count(c, from, to); n != 0 || e != api.ErrBad {
					t.Errorf("Count(%v, %d, %d) = %d, %d", c, from, to, n, e)
				}
			}
		}
	}
}

// P4.5

func count(t *testing.T, c api.Calendar, from, to int) int {
	t.Helper()
	n, e := calendar.Count(c, from, to)
	if e != api.OK {
		t.Fatalf("Count(%v, %d, %d): %d", c, from, to, e)
	}
	return n
}

func TestCountsAddUp(t *testing.T) {
	for _, c := range samples() {
		l := fewDays(c)
		for i, x := range l {
			y, z := l[(i*7+3)%len(l)], l[(i*13+40)%len(l)]
			if count(t, c, x, y)+count(t, c, y, z) != count(t, c, x, z) || count(t, c, x, y) != -count(t, c, y, x) {
				t.Errorf("weekend %d, %d holidays: the counts between %d, %d and %d do not add up", c.Weekend, len(c.Holidays), x, y, z)
			}
		}
	}
}

func TestAddingPassesBusinessDays(t *testing.T) {
	for _, c := range samples() {
		for i, day := range fewDays(c) {
			for _, n := range []int{1, -1, 2, -2, 5, -5, 23, -23, 31*i + 1, -31*i - 1} {
				to, e := calendar.Add(c, day, n)
				if e != api.OK {
					continue
				}
				if !business(t, c, to) || reached(t, c, day, to) != n {
					t.Errorf("weekend %d, %d holidays: adding %d to %d passes %d business days, to %d", c.Weekend, len(c.Holidays), n, day, reached(t, c, day, to), to)
				}
			}
		}
	}
}

// reached returns the number of business days after from and up to to; if to is before from, the negative of the number before from and from to on.
func reached(t *testing.T, c api.Calendar, from, to int) int {
	n := count(t, c, from, to)
	if to < from {
		return n
	}
	if business(t, c, from) {
		n--
	}
	if business(t, c, to) {
		n++
	}
	return n
}

func TestAddingOneAfterTheOtherAddsBoth(t *testing.T) {
	for _, c := range samples() {
		for _, day := range someDays(c) {
			for _, p := range [][2]int{{1, 1}, {2, 3}, {-1, -1}, {-4, -2}, {7, -3}, {-5, 9}, {6, -6}} {
				from, e := calendar.Add(c, day, 0)
				mid, f := calendar.Add(c, from, p[0])
				if e != api.OK || f != api.OK {
					continue
				}
				got, e := calendar.Add(c, mid, p[1])
				want, f := calendar.Add(c, from, p[0]+p[1])
				if got != want || e != f {
					t.Errorf("weekend %d, %d holidays: adding %d and %d to %d: %d, %d; not %d, %d", c.Weekend, len(c.Holidays), p[0], p[1], from, got, e, want, f)
				}
			}
		}
	}
}

func TestAddZeroIsRollNext(t *testing.T) {
	for _, c := range samples() {
		for _, day := range someDays(c) {
			got, e := calendar.Add(c, day, 0)
			if want, f := calendar.Roll(c, day, api.RollNext); got != want || e != f {
				t.Errorf("weekend %d, %d holidays: Add of 0 to %d = %d, %d; not %d, %d", c.Weekend, len(c.Holidays), day, got, e, want, f)
			}
		}
	}
}
