package money

import (
	"novation/api"
	"novation/integer"
)

// usualUnit is the unit of all currencies that are not listed.
const usualUnit = 2

func listedUnits() map[string]int {
	return map[string]int{"JPY": 0, "KRW": 0, "VND": 0, "BHD": 3, "KWD": 3, "TND": 3}
}

// unitsOfOne returns how many smallest units make 1 of a currency with a unit.
func unitsOfOne(unit int) int {
	n := 1
	for range unit {
		n *= 10
	}
	return n
}

func isName(s string) bool {
	if s == "" || len(s) > api.MaxName || !isLetter(s[0]) {
		return false
	}
	for i := range len(s) {
		if !isLetter(s[i]) && !isDigit(s[i]) && s[i] != '_' && s[i] != '-' {
			return false
		}
	}
	return true
}

func isLetter(c byte) bool {
	return 'a' <= c && c <= 'z' || 'A' <= c && c <= 'Z'
}

func isDigit(c byte) bool {
	return '0' <= c && c <= '9'
}

func isAmount(n int) bool {
	return -api.MaxMoney <= n && n <= api.MaxMoney
}

// amountOf returns the amount that a canonical integer is, or ErrBig if it is none.
func amountOf(a api.Int) (int, api.Errno) {
	n, e := integer.To(a)
	if e != api.OK || !isAmount(n) {
		return 0, api.ErrBig
	}
	return n, api.OK
}
