package daycount_test

import (
	"math"
	"math/big"
	"slices"
	"testing"
	"time"

	"novation/api"
	"novation/date"
	"novation/daycount"
)

// rules are the names of the rules.
var rules = [...]string{api.CountAct365: "Act365", api.CountAct360: "Act360", api.CountThirty: "Thirty", api.CountActAct: "ActAct", api.CountBond: "Bond"}

// day0 and the package time give the dates that the tests compare with.
var day0 = time.Date(1900, time.January, 1, 0, 0, 0, 0, time.UTC)

func dateOf(day int) time.Time {
	return day0.AddDate(0, 0, day)
}

func textOf(day int) string {
	return dateOf(day).Format("2006-01-02")
}

func yearLength(y int) int {
	return time.Date(y, time.December, 31, 0, 0, 0, 0, time.UTC).YearDay()
}

// day returns the day of a text.
func day(t *testing.T, text string) int {
	t.Helper()
	n, e := date.Parse(text)
	if e != api.OK {
		t.Fatalf("%q: %d", text, e)
	}
	return n
}

// noDays are numbers that are no days; some of them are, if they are cut to fewer bits.
var noDays = []int{-1, -2, -365, -100000, api.MaxDate + 1, api.MaxDate + 2, 1 << 31, -1 << 31, 1 << 32, -1 << 32, 1<<32 + 46340, -1<<32 + 46340, math.MaxInt, math.MinInt, math.MinInt + 1}

// someDays are the last days of months and the days around them, in years that are leap years and in others, the first and the last days, and days between.
func someDays(t *testing.T) []int {
	l := []int{0, 1, 29, 30, 31, 57, 58, 59, api.MaxDate - 15, api.MaxDate - 14, api.MaxDate - 1, api.MaxDate}
	for _, text := range []string{
		"1904-02-28", "1904-02-29", "1904-03-01", "1999-12-31", "2000-01-01", "2000-02-28", "2000-02-29", "2000-03-01", "2000-12-31",
		"2022-12-31", "2023-01-01", "2023-01-15", "2023-01-28", "2023-01-29", "2023-01-30", "2023-01-31", "2023-02-01", "2023-02-27", "2023-02-28", "2023-03-01", "2023-04-29", "2023-04-30", "2023-05-01", "2023-07-01", "2023-08-31",
		"2023-12-28", "2023-12-29", "2023-12-30", "2023-12-31", "2024-01-01", "2024-01-15", "2024-01-29", "2024-01-30", "2024-01-31", "2024-02-01", "2024-02-28", "2024-02-29", "2024-03-01", "2024-03-30", "2024-03-31", "2024-07-01", "2024-07-31",
		"2024-12-30", "2024-12-31", "2025-01-01", "2025-06-30", "2026-11-16", "2028-02-29", "2099-12-31", "2100-02-28", "2100-03-01", "2100-12-31", "2101-01-01",
	} {
		l = append(l, day(t, text))
	}
	for n := 77; n < api.MaxDate; n += 9973 {
		l = append(l, n)
	}
	slices.Sort(l)
	return slices.Compact(l)
}

// forward returns the days that the document gives for a period that does not end before it begins.
func forward(rule uint8, from, to int) int {
	a, b := dateOf(from), dateOf(to)
	d1, d2 := a.Day(), b.Day()
	switch {
	case rule != api.CountThirty && rule != api.CountBond:
		return to - from
	case d2 == 31 && (rule == api.CountThirty || d1 >= 30):
		d2 = 30
	}
	if d1 == 31 {
		d1 = 30
	}
	return 360*(b.Year()-a.Year()) + 30*(int(b.Month())-int(a.Month())) + d2 - d1
}

// forwardPart returns the fraction that the document gives for a period that does not end before it begins.
func forwardPart(rule uint8, from, to int) *big.Rat {
	switch rule {
	case api.CountAct365:
		return big.NewRat(int64(to-from), 365)
	case api.CountActAct:
		return sumOfYears(from, to)
	}
	return big.NewRat(int64(forward(rule, from, to)), 360)
}

// sumOfYears adds up, year by year, the days from from on and before to, as parts of their years.
func sumOfYears(from, to int) *big.Rat {
	sum, y, first := new(big.Rat), 1900, 0
	for ; first <= to; y++ {
		length := yearLength(y)
		if days := min(to, first+length) - max(from, first); days > 0 {
			sum.Add(sum, big.NewRat(int64(days), int64(length)))
		}
		first += length
	}
	return sum
}

func wanted(rule uint8, from, to int) (int, api.Rat) {
	if to < from {
		return -forward(rule, to, from), canonical(new(big.Rat).Neg(forwardPart(rule, to, from)))
	}
	return forward(rule, from, to), canonical(forwardPart(rule, from, to))
}

func canonical(x *big.Rat) api.Rat {
	return api.Rat(x.RatString())
}

// days returns the days of a period, for which there is no error.
func days(t *testing.T, rule uint8, from, to int) int {
	t.Helper()
	n, e := daycount.Days(rule, from, to)
	if e != api.OK {
		t.Fatalf("%s from %s to %s: %d", rules[rule], textOf(from), textOf(to), e)
	}
	return n
}

// part returns the fraction of a period, for which there is no error.
func part(t *testing.T, rule uint8, from, to int) api.Rat {
	t.Helper()
	r, e := daycount.Fraction(rule, from, to)
	if e != api.OK {
		t.Fatalf("%s from %s to %s: %d", rules[rule], textOf(from), textOf(to), e)
	}
	return r
}
