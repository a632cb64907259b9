package date_test

import (
	"math"
	"testing"
	"time"

	"novation/api"
	"novation/date"
)

// P3.1

func TestLeapOfYears(t *testing.T) {
	for y := -5000; y <= 5000; y++ {
		if got := date.Leap(y); got != isDate(y, 2, 29) {
			t.Errorf("Leap(%d) = %v", y, got)
		}
	}
}

func TestLeapOfNamedYears(t *testing.T) {
	for y, want := range map[int]bool{
		0: true, 4: true, 100: false, 400: true, -1: false, -3: false, -4: true, -96: true, -100: false, -200: false, -300: false, -400: true, -401: false,
		1896: true, 1900: false, 1904: true, 1999: false, 2000: true, 2023: false, 2024: true, 2100: false, 2172: true, 2173: false, 2400: true,
		1 << 40: true, 1<<40 + 1: false, -1 << 40: true,
		math.MaxInt: false, math.MaxInt - 3: true, math.MaxInt - 7: false, math.MaxInt - 407: false, math.MinInt: true, math.MinInt + 1: false, math.MinInt + 4: true, math.MinInt + 8: false, math.MinInt + 208: true,
	} {
		if got := date.Leap(y); got != want {
			t.Errorf("Leap(%d) = %v", y, got)
		}
	}
}

func TestLengthOfMonths(t *testing.T) {
	for y := api.FirstYear - 5; y <= api.LastYear+5; y++ {
		for m := -3; m <= 16; m++ {
			want, wantE := 0, api.ErrArg
			if y >= 1900 && y <= 2173 && m >= 1 && m <= 12 {
				want, wantE = time.Date(y, time.Month(m+1), 0, 0, 0, 0, 0, time.UTC).Day(), api.OK
			}
			if got, e := date.Length(y, m); got != want || e != wantE {
				t.Errorf("Length(%d, %d) = %d, %d", y, m, got, e)
			}
		}
	}
}

func TestLengthOfFebruaries(t *testing.T) {
	for y, want := range map[int]int{1900: 28, 1904: 29, 2000: 29, 2023: 28, 2024: 29, 2100: 28, 2172: 29, 2173: 28} {
		if got, e := date.Length(y, 2); got != want || e != api.OK {
			t.Errorf("Length(%d, 2) = %d, %d", y, got, e)
		}
	}
}

func TestLengthOfOtherYearsAndMonths(t *testing.T) {
	for _, x := range extremes() {
		for _, p := range [][2]int{{x, 1}, {x, 2}, {2024, x}, {x, x}} {
			if got, e := date.Length(p[0], p[1]); got != 0 || e != api.ErrArg {
				t.Errorf("Length(%d, %d) = %d, %d", p[0], p[1], got, e)
			}
		}
	}
}

// extremes are numbers that are neither a year, nor a month, nor a day of a month; some of them are, if they are cut to fewer bits.
func extremes() []int {
	return []int{math.MinInt, math.MinInt + 1, math.MinInt + 2024, math.MaxInt, math.MaxInt - 1, -1, -2024, -12, 0, 1<<32 + 1, 1<<32 + 2024, 1<<16 + 1, 1<<16 + 2024, 1<<8 + 1, -1<<32 + 1, 20240}
}

func TestOfAndPartsOfAllDates(t *testing.T) {
	for y := api.FirstYear - 2; y <= api.LastYear+2; y++ {
		for m := -1; m <= 14; m++ {
			for d := -1; d <= 33; d++ {
				checkDate(t, y, m, d)
			}
		}
	}
}

func checkDate(t *testing.T, y, m, d int) {
	want, ok := dayOf(y, m, d)
	got, e := date.Of(y, m, d)
	if !ok {
		if got != 0 || e != api.ErrArg {
			t.Errorf("Of(%d, %d, %d) = %d, %d", y, m, d, got, e)
		}
		return
	}
	if got != want || e != api.OK {
		t.Errorf("Of(%d, %d, %d) = %d, %d", y, m, d, got, e)
	}
	if py, pm, pd, e := date.Parts(want); py != y || pm != m || pd != d || e != api.OK {
		t.Errorf("Parts(%d) = %d, %d, %d, %d", want, py, pm, pd, e)
	}
}

func TestOfNamedDates(t *testing.T) {
	for _, k := range []struct{ y, m, d, day, weekday int }{
		{1900, 1, 1, 0, 0}, {1900, 1, 2, 1, 1}, {1900, 2, 28, 58, 2}, {1900, 3, 1, 59, 3}, {1999, 12, 31, 36523, 4}, {2000, 2, 29, 36583, 1},
		{2024, 1, 31, 45320, 2}, {2024, 2, 29, 45349, 3}, {2024, 3, 29, 45378, 4}, {2024, 3, 31, 45380, 6}, {2026, 11, 16, 46340, 0},
		{2100, 2, 28, 73107, 6}, {2100, 3, 1, 73108, 0}, {2173, 10, 14, 99998, 3}, {2173, 10, 15, 99999, 4},
	} {
		day, e := date.Of(k.y, k.m, k.d)
		weekday, we := date.Weekday(k.day)
		if day != k.day || e != api.OK || weekday != k.weekday || we != api.OK {
			t.Errorf("%d-%d-%d is day %d, %d; weekday %d, %d", k.y, k.m, k.d, day, e, weekday, we)
		}
	}
}

func TestOfDatesThatAreNotValid(t *testing.T) {
	for _, k := range [][3]int{
		{1899, 12, 31}, {1900, 1, 0}, {1900, 0, 1}, {1900, 0, 31}, {1900, 2, 29}, {2000, 2, 30}, {2023, 2, 29}, {2100, 2, 29}, {2024, 2, 30}, {2024, 4, 31}, {2024, 13, 1}, {2024, 12, 32},
		{2173, 10, 16}, {2173, 10, 31}, {2173, 11, 1}, {2173, 12, 31}, {2174, 1, 1}, {0, 0, 0}, {0, 1, 1}, {-4, 2, 29}, {26, 11, 16},
	} {
		if day, e := date.Of(k[0], k[1], k[2]); day != 0 || e != api.ErrArg {
			t.Errorf("Of(%v) = %d, %d", k, day, e)
		}
	}
	for _, x := range extremes() {
		for _, k := range [][3]int{{x, 1, 1}, {2024, x, 1}, {2024, 1, x}, {x, x, x}} {
			if day, e := date.Of(k[0], k[1], k[2]); day != 0 || e != api.ErrArg {
				t.Errorf("Of(%v) = %d, %d", k, day, e)
			}
		}
	}
}

func TestWeekdayOfAllDays(t *testing.T) {
	for day, d := range allDates() {
		want := (int(d.Weekday()) + 6) % 7
		if got, e := date.Weekday(day); got != want || e != api.OK {
			t.Fatalf("Weekday(%d) = %d, %d", day, got, e)
		}
	}
}

func TestPartsAndWeekdayOfNoDays(t *testing.T) {
	for _, day := range noDays {
		if y, m, d, e := date.Parts(day); y != 0 || m != 0 || d != 0 || e != api.ErrArg {
			t.Errorf("Parts(%d) = %d, %d, %d, %d", day, y, m, d, e)
		}
		if w, e := date.Weekday(day); w != 0 || e != api.ErrArg {
			t.Errorf("Weekday(%d) = %d, %d", day, w, e)
		}
	}
}

// P3.4

func TestPartsAndOfAreInverse(t *testing.T) {
	for day := range api.MaxDate + 1 {
		y, m, d, e := date.Parts(day)
		back, f := date.Of(y, m, d)
		if back != day || e != api.OK || f != api.OK {
			t.Fatalf("day %d is %d-%d-%d, which is day %d: %d, %d", day, y, m, d, back, e, f)
		}
	}
}

func TestNextDayIsNextDate(t *testing.T) {
	wy, wm, wd, weekday := api.FirstYear, 1, 1, 0
	for day := range api.MaxDate + 1 {
		y, m, d, e := date.Parts(day)
		w, f := date.Weekday(day)
		if y != wy || m != wm || d != wd || w != weekday || e != api.OK || f != api.OK {
			t.Fatalf("day %d is %d-%d-%d, weekday %d: %d, %d", day, y, m, d, w, e, f)
		}
		weekday = (weekday + 1) % 7
		last, e := date.Length(y, m)
		if e != api.OK {
			t.Fatalf("Length(%d, %d): %d", y, m, e)
		}
		if wd++; wd > last {
			wm, wd = wm+1, 1
		}
		if wm > 12 {
			wy, wm = wy+1, 1
		}
	}
}

func TestDaysAreOrderedAsDatesAndTexts(t *testing.T) {
	dates, texts := make([][3]int, api.MaxDate+1), make([]string, api.MaxDate+1)
	for day := range texts {
		y, m, d, _ := date.Parts(day)
		dates[day] = [3]int{y, m, d}
		texts[day], _ = date.Text(day)
		if day > 0 && (!earlier(dates[day-1], dates[day]) || texts[day-1] >= texts[day]) {
			t.Fatalf("day %d: %v after %v, %q after %q", day, dates[day], dates[day-1], texts[day], texts[day-1])
		}
	}
}

func earlier(a, b [3]int) bool {
	for i := range a {
		if a[i] != b[i] {
			return a[i] < b[i]
		}
	}
	return false
}

func TestLeapYearsRepeatAfter400Years(t *testing.T) {
	for _, from := range []int{-3000, 1500, math.MinInt, math.MaxInt - 1500, 1 << 40, -1 << 40} {
		for y := from; y < from+1000; y++ {
			if date.Leap(y) != date.Leap(y+400) {
				t.Errorf("Leap(%d) and Leap(%d) differ", y, y+400)
			}
		}
	}
}
