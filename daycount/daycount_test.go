package daycount_test

import (
	"math/big"
	"testing"

	"novation/api"
	"novation/daycount"
)

// P5.1

func check(t *testing.T, rule uint8, from, to, wantDays int, wantPart api.Rat) {
	t.Helper()
	n, e := daycount.Days(rule, from, to)
	r, f := daycount.Fraction(rule, from, to)
	if n != wantDays || r != wantPart || e != api.OK || f != api.OK {
		t.Errorf("%s from %s to %s: %d, %q; not %d, %q; %d, %d", rules[rule], textOf(from), textOf(to), n, r, wantDays, wantPart, e, f)
	}
}

func TestExamplesOfTheDocument(t *testing.T) {
	const first, middle, second, july23, july24 = 45320, 45304, 45502, 45106, 45472
	for _, k := range []struct {
		from, to int
		rule     uint8
		days     int
		want     api.Rat
	}{
		{first, second, api.CountAct365, 182, "182/365"},
		{first, second, api.CountAct360, 182, "91/180"},
		{first, second, api.CountThirty, 180, "1/2"},
		{first, second, api.CountBond, 180, "1/2"},
		{first, second, api.CountActAct, 182, "91/183"},
		{middle, second, api.CountThirty, 195, "13/24"},
		{middle, second, api.CountBond, 196, "49/90"},
		{july23, july24, api.CountActAct, 366, "66887/66795"},
	} {
		check(t, k.rule, k.from, k.to, k.days, k.want)
	}
}

func TestThirtyAndBondOfNamedDates(t *testing.T) {
	for _, k := range []struct {
		from, to       string
		thirty, bond   int
		thirds, bonded api.Rat
	}{
		{"2024-01-15", "2024-01-15", 0, 0, "0", "0"},
		{"2024-01-31", "2024-01-31", 0, 0, "0", "0"},
		{"2024-01-30", "2024-01-31", 0, 0, "0", "0"},
		{"2024-01-29", "2024-01-31", 1, 2, "1/360", "1/180"},
		{"2024-01-28", "2024-01-31", 2, 3, "1/180", "1/120"},
		{"2024-01-29", "2024-01-30", 1, 1, "1/360", "1/360"},
		{"2024-01-31", "2024-02-01", 1, 1, "1/360", "1/360"},
		{"2024-01-30", "2024-02-01", 1, 1, "1/360", "1/360"},
		{"2024-01-31", "2024-02-29", 29, 29, "29/360", "29/360"},
		{"2023-02-28", "2023-03-01", 3, 3, "1/120", "1/120"},
		{"2024-02-28", "2024-03-01", 3, 3, "1/120", "1/120"},
		{"2024-02-29", "2024-03-01", 2, 2, "1/180", "1/180"},
		{"2023-02-28", "2023-03-31", 32, 33, "4/45", "11/120"},
		{"2024-02-29", "2024-03-31", 31, 32, "31/360", "4/45"},
		{"2024-04-30", "2024-05-31", 30, 30, "1/12", "1/12"},
		{"2024-04-29", "2024-05-31", 31, 32, "31/360", "4/45"},
		{"2024-03-31", "2024-04-30", 30, 30, "1/12", "1/12"},
		{"2024-01-31", "2024-03-31", 60, 60, "1/6", "1/6"},
		{"2023-12-31", "2024-12-31", 360, 360, "1", "1"},
		{"2023-12-15", "2024-12-31", 375, 376, "25/24", "47/45"},
		{"2023-12-30", "2024-01-01", 1, 1, "1/360", "1/360"},
		{"2023-11-10", "2024-02-09", 89, 89, "89/360", "89/360"},
		{"1900-01-01", "2173-10-15", 98564, 98564, "24641/90", "24641/90"},
	} {
		from, to := day(t, k.from), day(t, k.to)
		check(t, api.CountThirty, from, to, k.thirty, k.thirds)
		check(t, api.CountBond, from, to, k.bond, k.bonded)
	}
}

// TestBondBackward has periods whose days would be others if the dates were not exchanged first.
func TestBondBackward(t *testing.T) {
	for _, k := range []struct {
		from, to string
		days     int
		want     api.Rat
	}{
		{"2024-07-31", "2024-01-15", -196, "-49/90"},
		{"2024-01-15", "2023-12-31", -15, "-1/24"},
		{"2024-01-31", "2024-01-30", 0, "0"},
		{"2024-01-31", "2024-01-29", -2, "-1/180"},
		{"2024-03-31", "2024-02-29", -32, "-4/45"},
		{"2024-05-31", "2024-04-30", -30, "-1/12"},
		{"2024-04-29", "2024-01-31", -89, "-89/360"},
	} {
		check(t, api.CountBond, day(t, k.from), day(t, k.to), k.days, k.want)
	}
}

func TestActualOfNamedDates(t *testing.T) {
	for _, k := range []struct {
		from, to             string
		days                 int
		by365, by360, byYear api.Rat
	}{
		{"2024-02-29", "2024-02-29", 0, "0", "0", "0"},
		{"2023-01-01", "2024-01-01", 365, "1", "73/72", "1"},
		{"2024-01-01", "2025-01-01", 366, "366/365", "61/60", "1"},
		{"2023-12-31", "2024-01-01", 1, "1/365", "1/360", "1/365"},
		{"2024-01-01", "2023-12-31", -1, "-1/365", "-1/360", "-1/365"},
		{"2024-12-31", "2025-01-01", 1, "1/365", "1/360", "1/366"},
		{"2024-02-28", "2024-03-01", 2, "2/365", "1/180", "1/183"},
		{"2023-12-31", "2024-01-02", 2, "2/365", "1/180", "731/133590"},
		{"2024-01-02", "2023-12-31", -2, "-2/365", "-1/180", "-731/133590"},
		{"1900-01-01", "1901-01-01", 365, "1", "73/72", "1"},
		{"2000-02-29", "2000-03-01", 1, "1/365", "1/360", "1/366"},
		{"2100-02-28", "2100-03-01", 1, "1/365", "1/360", "1/365"},
		{"2022-12-31", "2025-01-02", 733, "733/365", "733/360", "732/365"},
		{"1900-01-01", "2173-10-15", 99999, "99999/365", "11111/40", "99932/365"},
		{"2173-10-15", "1900-01-01", -99999, "-99999/365", "-11111/40", "-99932/365"},
	} {
		from, to := day(t, k.from), day(t, k.to)
		check(t, api.CountAct365, from, to, k.days, k.by365)
		check(t, api.CountAct360, from, to, k.days, k.by360)
		check(t, api.CountActAct, from, to, k.days, k.byYear)
	}
}

func TestDaysAndFractionsOfSomeDays(t *testing.T) {
	l := someDays(t)
	for rule := range rules {
		for _, from := range l {
			for _, to := range l {
				n, r := wanted(uint8(rule), from, to)
				check(t, uint8(rule), from, to, n, r)
			}
		}
	}
}

// TestAllDaysOfSomeYears has every period within three years and a month, the second of them a leap year.
func TestAllDaysOfSomeYears(t *testing.T) {
	begin, end := day(t, "2023-01-01"), day(t, "2026-02-02")
	for rule := range rules {
		for from := begin; from < end; from++ {
			for to := from; to < end; to++ {
				want := forward(uint8(rule), from, to)
				if n := days(t, uint8(rule), from, to); n != want {
					t.Fatalf("%s from %s to %s: %d, not %d", rules[rule], textOf(from), textOf(to), n, want)
				}
			}
		}
	}
}

func TestActActFromTheFirstDay(t *testing.T) {
	sum, length := new(big.Rat), 0
	for to := range api.MaxDate + 1 {
		if r := part(t, api.CountActAct, 0, to); r != canonical(sum) {
			t.Fatalf("up to %s: %q, not %q", textOf(to), r, canonical(sum))
		}
		if d := dateOf(to); length == 0 || d.YearDay() == 1 {
			length = yearLength(d.Year())
		}
		sum.Add(sum, big.NewRat(1, int64(length)))
	}
}

func checkInvalid(t *testing.T, rule uint8, from, to int) {
	t.Helper()
	n, e := daycount.Days(rule, from, to)
	r, f := daycount.Fraction(rule, from, to)
	if n != 0 || r != "" || e != api.ErrArg || f != api.ErrArg {
		t.Errorf("rule %d from %d to %d: %d, %q; %d, %d", rule, from, to, n, r, e, f)
	}
}

func TestOtherRules(t *testing.T) {
	for rule := len(rules); rule < 256; rule++ {
		for _, from := range []int{-1, 0, 45320, api.MaxDate, api.MaxDate + 1} {
			for _, to := range []int{-1, 0, 45320, 45502, api.MaxDate, api.MaxDate + 1} {
				checkInvalid(t, uint8(rule), from, to)
			}
		}
	}
}

func TestNoDays(t *testing.T) {
	for rule := range rules {
		for _, no := range noDays {
			for _, other := range append([]int{0, 31, 45320, api.MaxDate}, noDays...) {
				checkInvalid(t, uint8(rule), no, other)
				checkInvalid(t, uint8(rule), other, no)
			}
		}
	}
}

func TestFirstAndLastDayAreDays(t *testing.T) {
	for rule := range uint8(len(rules)) {
		check(t, rule, 0, 0, 0, "0")
		check(t, rule, api.MaxDate, api.MaxDate, 0, "0")
	}
}
