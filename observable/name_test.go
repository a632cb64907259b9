package observable_test

import (
	"slices"
	"strings"
	"testing"

	"novation/api"
	"novation/observable"
)

// P8.1

func checkName(t *testing.T, s string, good bool) {
	t.Helper()
	if observable.Name(s) != good {
		t.Errorf("Name(%q) = %v", s, !good)
	}
}

func TestNames(t *testing.T) {
	for _, s := range names {
		checkName(t, s, true)
	}
	for _, s := range noNames {
		checkName(t, s, false)
	}
	if !slices.IsSorted(names) {
		t.Error("the names are not in order")
	}
}

func TestNamesOfAllBytes(t *testing.T) {
	for i := range 256 {
		c := string([]byte{byte(i)})
		letter := strings.Contains("abcdefghijklmnopqrstuvwxyzABCDEFGHIJKLMNOPQRSTUVWXYZ", c)
		inside := letter || strings.Contains("0123456789_-", c)
		for s, good := range map[string]bool{
			c: letter, c + "b": letter, c + c: letter, c + strings.Repeat("b", 39): letter, c + strings.Repeat("b", 40): false,
			"a" + c: inside, "Z" + c: inside, "a" + c + "b": inside, "b" + c + c + c: inside, strings.Repeat("a", 39) + c: inside, strings.Repeat("a", 20) + c + strings.Repeat("a", 19): inside, strings.Repeat("a", 40) + c: false,
		} {
			checkName(t, s, good)
		}
	}
}

func TestNamesOfAllLengths(t *testing.T) {
	for n := range 300 {
		checkName(t, strings.Repeat("x", n), n >= 1 && n <= api.MaxName)
		checkName(t, "A"+strings.Repeat("-", n), n <= api.MaxName-1)
		checkName(t, strings.Repeat("\u00e9", n), false)
	}
	checkName(t, strings.Repeat("x", 1<<20), false)
}
