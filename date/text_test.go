package date_test

import (
	"fmt"
	"strings"
	"testing"

	"novation/api"
	"novation/date"
)

// P3.3

func TestTextAndParseOfAllDays(t *testing.T) {
	for day, d := range allDates() {
		want := d.Format("2006-01-02")
		if s, e := date.Text(day); s != want || e != api.OK {
			t.Fatalf("Text(%d) = %q, %d", day, s, e)
		}
		if got, e := date.Parse(want); got != day || e != api.OK {
			t.Fatalf("Parse(%q) = %d, %d", want, got, e)
		}
	}
}

func TestTextOfNoDays(t *testing.T) {
	for _, day := range noDays {
		if s, e := date.Text(day); s != "" || e != api.ErrArg {
			t.Errorf("Text(%d) = %q, %d", day, s, e)
		}
	}
}

func TestParseNamedTexts(t *testing.T) {
	for s, want := range map[string]int{"1900-01-01": 0, "1900-01-02": 1, "2024-02-29": 45349, "2026-11-16": 46340, "2173-10-14": 99998, "2173-10-15": 99999} {
		if day, e := date.Parse(s); day != want || e != api.OK {
			t.Errorf("Parse(%q) = %d, %d", s, day, e)
		}
	}
}

func TestParseDatesThatAreNotValid(t *testing.T) {
	for _, s := range []string{
		"2025-02-29", "1900-02-29", "2100-02-29", "2024-02-30", "2024-04-31", "2024-01-32", "2024-01-00", "2024-00-01", "2024-13-01", "2024-12-99", "2024-99-01",
		"0000-00-00", "0000-01-01", "0004-02-29", "0026-11-16", "1899-12-31", "1899-01-01", "2173-10-16", "2173-12-31", "2174-01-01", "9999-12-31", "9999-99-99",
	} {
		if day, e := date.Parse(s); day != 0 || e != api.ErrArg {
			t.Errorf("Parse(%q) = %d, %d", s, day, e)
		}
	}
}

func TestParseAllMonthsAndDaysInDigits(t *testing.T) {
	for _, y := range []int{0, 4, 1899, 1900, 1904, 2000, 2023, 2024, 2100, 2173, 2174, 9999} {
		for m := range 100 {
			for d := range 100 {
				s := fmt.Sprintf("%04d-%02d-%02d", y, m, d)
				want, wantE := 0, api.ErrArg
				if day, ok := dayOf(y, m, d); ok {
					want, wantE = day, api.OK
				}
				if day, e := date.Parse(s); day != want || e != wantE {
					t.Errorf("Parse(%q) = %d, %d", s, day, e)
				}
			}
		}
	}
}

func TestParseWithAnyByteChanged(t *testing.T) {
	for _, from := range []string{"2026-11-16", "2173-10-15", "2025-02-29", "9999-99-99"} {
		for i := range from {
			for c := range 256 {
				s := from[:i] + string([]byte{byte(c)}) + from[i+1:]
				if day, e := date.Parse(s); e != changed(s, i, byte(c)) || e != api.OK && day != 0 {
					t.Errorf("Parse(%q) = %d, %d", s, day, e)
				}
			}
		}
	}
}

// changed returns the error of a text whose byte i was changed to c.
func changed(s string, i int, c byte) api.Errno {
	isMark := i == 4 || i == 7
	if isMark && c != '-' || !isMark && (c < '0' || c > '9') {
		return api.ErrForm
	}
	var y, m, d int
	fmt.Sscanf(s, "%4d-%2d-%2d", &y, &m, &d)
	if _, ok := dayOf(y, m, d); !ok {
		return api.ErrArg
	}
	return api.OK
}

func TestParseTextsOfAnotherForm(t *testing.T) {
	l := []string{
		"", "2", "2026-11-1", "2026-11-6", "2026-1-16", "226-11-16", "026-11-16", "2026-11-160", "2026-11-016", "2026-011-16", "02026-11-16", "2026-11-16 ", " 2026-11-16", "2026-11-16\n", "2026-11-16\x00", "2026-11-16-",
		"20261116", "2026111600", "2026-1116-", "20261-1-16", "202611--16", "-2026-1116", "2026-11--6", "2026--1-16", "2026-+1-16", "+026-11-16", "-026-11-16", "2026-11-+6", "2026- 1-16", "2026-11- 6",
		"2026/11/16", "2026.11.16", "2026-11/16", "2026/11-16", "2026_11_16", "2026:11:16", "16-11-2026", "11/16/2026", "2026-Nov-6", "yyyy-mm-dd", "          ", "----------", "--------", "2026-13/01", "2025-02-3x", "x025-02-29", "9999-9999-",
		"2026\u201011-6", "2026\u201011\u201016", "\u0662\u0660-11-16", "20\u0662-11-16", "2026-11-\u0661", "202\uff16-11-1", "2026\u221211-16",
		strings.Repeat("2", 1<<20), strings.Repeat("2026-11-16", 2),
	}
	for n := range 30 {
		if n != 10 {
			l = append(l, strings.Repeat("2026-11-16", 3)[:n], strings.Repeat("0", n))
		}
	}
	for _, s := range l {
		if day, e := date.Parse(s); day != 0 || e != api.ErrForm {
			t.Errorf("Parse(%.30q) = %d, %d", s, day, e)
		}
	}
}
