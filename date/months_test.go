package date_test

import (
	"math"
	"testing"

	"novation/api"
	"novation/date"
)

// P3.2

// steps are numbers of months around those at which the year, or the length of February, changes.
var steps = []int{
	-4000, -3999, -3286, -3285, -3284, -2400, -1201, -1200, -1199, -49, -48, -47, -36, -25, -24, -23, -13, -12, -11, -10, -9, -6, -3, -2, -1,
	0, 1, 2, 3, 4, 5, 6, 7, 8, 9, 10, 11, 12, 13, 23, 24, 25, 36, 47, 48, 49, 100, 1199, 1200, 1201, 2400, 3284, 3285, 3286, 3999, 4000,
	-4001, 4001, -4012, 4012, math.MinInt, math.MaxInt,
}

func TestAddMonthsToDaysOfAllMonths(t *testing.T) {
	l := months()
	for i, m := range l {
		for _, d := range []int{0, 14, m.length - 4, m.length - 3, m.length - 2, m.length - 1} {
			if m.first+d <= api.MaxDate {
				for _, n := range steps {
					checkAdded(t, l, i, d, n)
				}
			}
		}
	}
}

func TestAddAllNumbersOfMonths(t *testing.T) {
	l := months()
	for _, i := range []int{0, 1, 11, 12, 49, 1201, 1489, 1490, 2401, 3265, len(l) - 3, len(l) - 2, len(l) - 1} {
		for _, d := range []int{0, 14, 27, 28, 29, 30} {
			if d < l[i].length && l[i].first+d <= api.MaxDate {
				for n := -4005; n <= 4005; n++ {
					checkAdded(t, l, i, d, n)
				}
			}
		}
	}
}

func checkAdded(t *testing.T, l []month, i, d, n int) {
	for _, end := range []bool{false, true} {
		want, wantE := added(l, i, d, n, end)
		if got, e := date.AddMonths(l[i].first+d, n, end); got != want || e != wantE {
			t.Errorf("AddMonths(%d, %d, %v) = %d, %d; not %d, %d", l[i].first+d, n, end, got, e, want, wantE)
		}
	}
}

func TestAddMonthsToNamedDays(t *testing.T) {
	for _, k := range []struct {
		from string
		n    int
		end  bool
		to   string
	}{
		{"2024-01-31", 1, false, "2024-02-29"},
		{"2024-01-31", 1, true, "2024-02-29"},
		{"2024-01-30", 1, true, "2024-02-29"},
		{"2024-02-29", 1, false, "2024-03-29"},
		{"2024-02-29", 1, true, "2024-03-31"},
		{"2024-02-28", 1, true, "2024-03-28"},
		{"2023-02-28", 1, true, "2023-03-31"},
		{"2023-02-28", 12, true, "2024-02-29"},
		{"2023-02-28", 12, false, "2024-02-28"},
		{"2024-02-29", -12, false, "2023-02-28"},
		{"2100-02-28", -1200, true, "2000-02-29"},
		{"2000-02-29", 1200, false, "2100-02-28"},
		{"2000-02-29", -1200, true, "1900-02-28"},
		{"2024-04-30", 0, true, "2024-04-30"},
		{"2024-04-30", -1, true, "2024-03-31"},
		{"2024-04-30", -1, false, "2024-03-30"},
		{"2024-12-31", 2, false, "2025-02-28"},
		{"2024-01-31", -2, false, "2023-11-30"},
		{"2024-01-01", -1, false, "2023-12-01"},
		{"2024-12-01", 1, true, "2025-01-01"},
		{"1900-01-01", 0, false, "1900-01-01"},
		{"1900-01-01", 3285, false, "2173-10-01"},
		{"1900-01-15", 3285, true, "2173-10-15"},
		{"2173-10-15", -3285, true, "1900-01-15"},
		{"2173-10-01", -3285, true, "1900-01-01"},
		{"2173-10-15", 0, true, "2173-10-15"},
		{"1900-02-01", -1, false, "1900-01-01"},
		{"1900-02-28", -1, true, "1900-01-31"},
	} {
		day, e := date.Parse(k.from)
		to, f := date.AddMonths(day, k.n, k.end)
		if s, g := date.Text(to); s != k.to || e != api.OK || f != api.OK || g != api.OK {
			t.Errorf("%s and %d months, %v: %s, not %s; %d, %d, %d", k.from, k.n, k.end, s, k.to, e, f, g)
		}
	}
}

func TestAddMonthsBeyondDays(t *testing.T) {
	for _, k := range []struct {
		from string
		n    int
		end  bool
	}{
		{"1900-01-01", -1, false}, {"1900-01-31", -1, true}, {"1900-12-31", -12, false}, {"1900-12-31", -4000, true}, {"2173-10-15", -3286, false}, {"2173-10-15", -4000, false},
		{"2173-09-15", 13, false}, {"2173-09-16", 1, false}, {"2173-09-16", 1, true}, {"2173-09-30", 1, true}, {"2173-02-28", 8, true}, {"2173-10-01", 1, false}, {"2173-10-15", 2, false}, {"2173-10-15", 3, false},
		{"1900-01-01", 3286, false}, {"1900-01-16", 3285, false}, {"1900-01-01", 3288, false}, {"1900-01-01", 4000, false}, {"2173-10-15", 4000, true},
	} {
		day, _ := date.Parse(k.from)
		if got, e := date.AddMonths(day, k.n, k.end); got != 0 || e != api.ErrDate {
			t.Errorf("%s and %d months, %v: %d, %d", k.from, k.n, k.end, got, e)
		}
	}
}

func TestAddMonthsWithInvalidArguments(t *testing.T) {
	for _, end := range []bool{false, true} {
		for _, day := range noDays {
			for _, n := range []int{0, 1, -1, 4000, -4000, 4001, -4001} {
				if got, e := date.AddMonths(day, n, end); got != 0 || e != api.ErrArg {
					t.Errorf("AddMonths(%d, %d, %v) = %d, %d", day, n, end, got, e)
				}
			}
		}
		for _, n := range []int{-4001, 4001, -1 << 32, 1 << 32, 1<<16 + 1, math.MinInt, math.MaxInt} {
			for _, day := range []int{0, 30, 46340, api.MaxDate, -1, api.MaxDate + 1} {
				if got, e := date.AddMonths(day, n, end); got != 0 || e != api.ErrArg {
					t.Errorf("AddMonths(%d, %d, %v) = %d, %d", day, n, end, got, e)
				}
			}
		}
	}
}
