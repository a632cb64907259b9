package rational

import (
	"cmp"
	"math/bits"
	"strings"

	"novation/api"
	"novation/integer"
)

// A fraction is a rational: its numerator and its denominator, which is positive. They have no common divisor greater than 1.
type fraction struct {
	n, d api.Int
}

// parse returns the fraction that a stands for, or Check's error.
func parse(a api.Rat) (fraction, api.Errno) {
	above, below, divided := strings.Cut(string(a), "/")
	n, d := api.Int(above), api.Int("1")
	if divided {
		d = api.Int(below)
	}
	ofN, ofD := integer.Check(n), integer.Check(d)
	switch {
	case ofN == api.ErrForm || ofD == api.ErrForm || divided && !aboveOne(d):
		return fraction{}, api.ErrForm
	case ofN != api.OK || ofD != api.OK:
		return fraction{}, api.ErrBig
	case divided && divisor(n, d) != "1":
		return fraction{}, api.ErrForm
	}
	return fraction{n, d}, api.OK
}

// parseTwo returns the fractions that a and b stand for, or Check's error of the first one that has one.
func parseTwo(a, b api.Rat) (x, y fraction, e api.Errno) {
	if x, e = parse(a); e != api.OK {
		return fraction{}, fraction{}, e
	}
	if y, e = parse(b); e != api.OK {
		return fraction{}, fraction{}, e
	}
	return x, y, api.OK
}

// text returns the canonical rational of x.
func text(x fraction) api.Rat {
	if x.d == "1" {
		return api.Rat(x.n)
	}
	return api.Rat(x.n + "/" + x.d)
}

// aboveOne tells whether a canonical integer is greater than 1, however long it is.
func aboveOne(d api.Int) bool {
	return !negative(d) && d != "0" && d != "1"
}

func negative(n api.Int) bool {
	return strings.HasPrefix(string(n), "-")
}

// divisor returns the greatest common divisor of two integers, for which there is no error.
func divisor(n, d api.Int) api.Int {
	g, _ := integer.Gcd(n, d)
	return g
}

// reduced returns the fraction of n and d, where d is not 0.
func reduced(n, d api.Int) fraction {
	common := divisor(n, d)
	if negative(d) {
		common = "-" + common
	}
	above, _, _ := integer.DivMod(n, common)
	below, _, _ := integer.DivMod(d, common)
	return fraction{above, below}
}

// calculate returns what an operation makes of a and b.
func calculate(a, b api.Rat, operation func(x, y fraction) (fraction, api.Errno)) (api.Rat, api.Errno) {
	x, y, e := parseTwo(a, b)
	if e != api.OK {
		return "", e
	}
	z, e := operation(x, y)
	if e != api.OK {
		return "", e
	}
	return text(z), api.OK
}

// multiplier returns a function for products, which keeps in e the first error of one of them.
func multiplier(e *api.Errno) func(a, b api.Int) api.Int {
	return func(a, b api.Int) api.Int {
		p, failed := integer.Mul(a, b)
		*e = cmp.Or(*e, failed)
		return p
	}
}

func sum(x, y fraction) (fraction, api.Errno) {
	return combined(x, y, integer.Add)
}

func difference(x, y fraction) (fraction, api.Errno) {
	return combined(x, y, integer.Sub)
}

// combined returns the fraction of what join makes of both numerators, once the denominators are equal.
func combined(x, y fraction, join func(a, b api.Int) (api.Int, api.Errno)) (z fraction, e api.Errno) {
	times := multiplier(&e)
	left, right, below := times(x.n, y.d), times(y.n, x.d), times(x.d, y.d)
	if e != api.OK {
		return fraction{}, e
	}
	above, e := join(left, right)
	if e != api.OK {
		return fraction{}, e
	}
	return reduced(above, below), api.OK
}

func product(x, y fraction) (fraction, api.Errno) {
	var e api.Errno
	times := multiplier(&e)
	above, below := times(x.n, y.n), times(x.d, y.d)
	if e != api.OK {
		return fraction{}, e
	}
	return reduced(above, below), api.OK
}

func quotient(x, y fraction) (fraction, api.Errno) {
	if y.n == "0" {
		return fraction{}, api.ErrZero
	}
	return product(x, inverse(y))
}

// inverse returns 1 divided by x, which is not 0.
func inverse(x fraction) fraction {
	if negative(x.n) {
		return fraction{"-" + x.d, x.n[1:]}
	}
	return fraction{x.d, x.n}
}

// raised returns x to the power of n, which is not negative.
func raised(x fraction, n int) (api.Rat, api.Errno) {
	var e api.Errno
	times := multiplier(&e)
	// Numbers on the way are powers to the first bits of n, so that none is longer than the last one. They stay without a common divisor.
	above, below := api.Int("1"), api.Int("1")
	for bit := bits.Len(uint(n)) - 1; bit >= 0; bit-- {
		above, below = times(above, above), times(below, below)
		if n>>bit&1 == 1 {
			above, below = times(above, x.n), times(below, x.d)
		}
	}
	if e != api.OK {
		return "", e
	}
	return text(fraction{above, below}), api.OK
}
