// Package integer is layer 1: integers of up to 1,000 digits as canonical decimal strings. See shared/doc/01-integer.md.
package integer

import (
	"cmp"
	"strconv"
	"strings"

	"novation/api"
)

// Check returns ErrForm if a is not a canonical integer, and ErrBig if it has more than MaxDigits digits.
func Check(a api.Int) api.Errno {
	digits := strings.TrimPrefix(string(a), "-")
	switch {
	case a == "0":
		return api.OK
	case !startsAboveZero(digits) || !onlyDigits(digits):
		return api.ErrForm
	case len(digits) > api.MaxDigits:
		return api.ErrBig
	}
	return api.OK
}

func startsAboveZero(text string) bool {
	return text != "" && '1' <= text[0] && text[0] <= '9'
}

func onlyDigits(text string) bool {
	for i := range len(text) {
		if text[i] < '0' || '9' < text[i] {
			return false
		}
	}
	return true
}

// Of returns the canonical integer of n.
func Of(n int) api.Int {
	return api.Int(strconv.Itoa(n))
}

// To returns a as an int, or ErrBig if it is not from -2^63 to 2^63 - 1.
func To(a api.Int) (int, api.Errno) {
	if e := Check(a); e != api.OK {
		return 0, e
	}
	n, err := strconv.ParseInt(string(a), 10, 64)
	if err != nil {
		return 0, api.ErrBig
	}
	return int(n), api.OK
}

// Add returns a + b, or ErrBig if that has more than MaxDigits digits.
func Add(a, b api.Int) (api.Int, api.Errno) {
	if e := cmp.Or(Check(a), Check(b)); e != api.OK {
		return "", e
	}
	return limited(sum(parse(a), parse(b)))
}

// Sub returns a - b, or ErrBig if that has more than MaxDigits digits.
func Sub(a, b api.Int) (api.Int, api.Errno) {
	if e := cmp.Or(Check(a), Check(b)); e != api.OK {
		return "", e
	}
	return limited(sum(parse(a), opposite(parse(b))))
}

// Mul returns a * b, or ErrBig if that has more than MaxDigits digits.
func Mul(a, b api.Int) (api.Int, api.Errno) {
	if e := cmp.Or(Check(a), Check(b)); e != api.OK {
		return "", e
	}
	x, y := parse(a), parse(b)
	return limited(number{x.minus != y.minus, product(x.size, y.size)})
}

// DivMod returns q and r with a = q * b + r and 0 <= r < |b|, or ErrZero if b is 0.
func DivMod(a, b api.Int) (q, r api.Int, e api.Errno) {
	if e = cmp.Or(Check(a), Check(b)); e != api.OK {
		return "", "", e
	}
	if b == "0" {
		return "", "", api.ErrZero
	}
	x, y := parse(a), parse(b)
	quotient, rest := divide(x.size, y.size)
	if x.minus && len(rest) > 0 {
		// The rest counts from the multiple of b that is below a, which is one farther away from 0.
		quotient, rest = total(quotient, magnitude{1}), difference(y.size, rest)
	}
	return text(number{x.minus != y.minus, quotient}), text(number{false, rest}), api.OK
}

// Gcd returns the greatest common divisor of a and b, which is 0 if both are 0.
func Gcd(a, b api.Int) (api.Int, api.Errno) {
	if e := cmp.Or(Check(a), Check(b)); e != api.OK {
		return "", e
	}
	x, y := parse(a).size, parse(b).size
	for len(y) > 0 {
		_, rest := divide(x, y)
		x, y = y, rest
	}
	return text(number{false, x}), api.OK
}

// Compare returns -1, 0 or 1 if a is less than, equal to or greater than b.
func Compare(a, b api.Int) (int, api.Errno) {
	if e := cmp.Or(Check(a), Check(b)); e != api.OK {
		return 0, e
	}
	return sign(sum(parse(a), opposite(parse(b)))), api.OK
}
