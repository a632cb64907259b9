package daycount_test

import (
	"testing"

	"novation/api"
	"novation/date"
	"novation/daycount"
	"novation/rational"
)

// P5.2

func TestAdjacentPeriodsAddUp(t *testing.T) {
	for _, rule := range []uint8{api.CountAct365, api.CountAct360, api.CountThirty, api.CountActAct} {
		l := someDays(t)
		for i, a := range l {
			for j, b := range l {
				for k, c := range l {
					// A part of the triples: they are in all orders, and every pair of days is in some of them.
					if (i+j+k)%5 == 0 {
						checkAdded(t, rule, a, b, c)
					}
				}
			}
		}
	}
}

func checkAdded(t *testing.T, rule uint8, a, b, c int) {
	t.Helper()
	if x, y, z := days(t, rule, a, b), days(t, rule, b, c), days(t, rule, a, c); x+y != z {
		t.Fatalf("%s from %s to %s to %s: days %d and %d, not %d", rules[rule], textOf(a), textOf(b), textOf(c), x, y, z)
	}
	x, y, z := part(t, rule, a, b), part(t, rule, b, c), part(t, rule, a, c)
	if sum, e := rational.Add(x, y); sum != z || e != api.OK {
		t.Fatalf("%s from %s to %s to %s: %q and %q, not %q; %d", rules[rule], textOf(a), textOf(b), textOf(c), x, y, z, e)
	}
}

// TestBondPeriodsNeedNotAddUp shows why the promise leaves this rule out.
func TestBondPeriodsNeedNotAddUp(t *testing.T) {
	from, between, to := day(t, "2024-01-15"), day(t, "2024-01-30"), day(t, "2024-01-31")
	if x, y, z := days(t, api.CountBond, from, between), days(t, api.CountBond, between, to), days(t, api.CountBond, from, to); x != 15 || y != 0 || z != 16 {
		t.Errorf("%d, %d, %d", x, y, z)
	}
}

func TestExchangedDaysChangeTheSign(t *testing.T) {
	l := someDays(t)
	for rule := range uint8(len(rules)) {
		for _, from := range l {
			for _, to := range l {
				if n, back := days(t, rule, from, to), days(t, rule, to, from); n != -back {
					t.Errorf("%s from %s to %s: %d, and back %d", rules[rule], textOf(from), textOf(to), n, back)
				}
				r, back := part(t, rule, from, to), part(t, rule, to, from)
				if minus, e := rational.Sub("0", back); r != minus || e != api.OK {
					t.Errorf("%s from %s to %s: %q, and back %q; %d", rules[rule], textOf(from), textOf(to), r, back, e)
				}
			}
		}
	}
}

func TestCalendarYearsCountOneEach(t *testing.T) {
	var firsts []int
	for y := api.FirstYear; y <= api.LastYear; y++ {
		first, e := date.Of(y, 1, 1)
		if e != api.OK {
			t.Fatalf("%d: %d", y, e)
		}
		firsts = append(firsts, first)
	}
	for i, from := range firsts {
		for j, to := range firsts {
			if r := part(t, api.CountActAct, from, to); r != rational.Of(j-i) {
				t.Fatalf("from %s to %s: %q", textOf(from), textOf(to), r)
			}
		}
	}
}

func TestMonthsAreTwelfths(t *testing.T) {
	begin, end := day(t, "2023-01-01"), day(t, "2024-12-31")
	for from := begin; from <= end; from++ {
		if dateOf(from).Day() > 28 {
			continue
		}
		for n := -1490; n <= 1800; n += 7 {
			checkMonths(t, from, n)
		}
		for n := -13; n <= 25; n++ {
			checkMonths(t, from, n)
		}
	}
	for _, n := range []int{1, 2, 11, 12, 13, 24, 3000, 3284, 3285} {
		checkMonths(t, 0, n)
		checkMonths(t, 27, n)
		checkMonths(t, api.MaxDate, -n)
	}
}

// checkMonths leaves out months that lead to no day.
func checkMonths(t *testing.T, from, n int) {
	t.Helper()
	to, e := date.AddMonths(from, n, false)
	if e != api.OK {
		return
	}
	want, e := rational.Ratio(n, 12)
	if e != api.OK {
		t.Fatal(e)
	}
	check(t, api.CountThirty, from, to, 30*n, want)
	check(t, api.CountBond, from, to, 30*n, want)
}

func TestLaterEndsDoNotGiveFewerDays(t *testing.T) {
	l := someDays(t)
	for rule := range uint8(len(rules)) {
		for i, from := range l {
			begin, end := max(0, from-800), min(from+800, api.MaxDate)
			if i%20 == 0 {
				begin, end = 0, api.MaxDate
			}
			checkOrder(t, rule, from, begin, end)
		}
	}
}

func checkOrder(t *testing.T, rule uint8, from, begin, end int) {
	t.Helper()
	last := days(t, rule, from, begin)
	for to := begin + 1; to <= end; to++ {
		n, e := daycount.Days(rule, from, to)
		if n < last || e != api.OK {
			t.Fatalf("%s from %s to %s: %d, a day before %d; %d", rules[rule], textOf(from), textOf(to), n, last, e)
		}
		last = n
	}
}
