package money

import (
	"strings"

	"novation/api"
)

// pointed returns the text of an integer in a currency with a unit, without the currency.
func pointed(a api.Int, unit int) string {
	digits, negative := strings.CutPrefix(string(a), "-")
	digits = strings.Repeat("0", max(unit+1-len(digits), 0)) + digits
	point := len(digits) - unit
	text := digits[:point]
	if unit > 0 {
		text += "." + digits[point:]
	}
	if negative {
		return "-" + text
	}
	return text
}

// unpointed returns the only integer of which a number can be the text. Whether it is, and whether this is an integer at all, is not checked.
func unpointed(number string) api.Int {
	digits := strings.TrimLeft(strings.Replace(number, ".", "", 1), "-0")
	switch {
	case digits == "":
		return "0"
	case strings.HasPrefix(number, "-"):
		return api.Int("-" + digits)
	}
	return api.Int(digits)
}
