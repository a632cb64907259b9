package integer

import (
	"cmp"
	"math/bits"
)

const (
	width = 9             // digits of a group
	base  = 1_000_000_000 // groups are less than this
)

// A magnitude is an integer that is not negative: its groups of nine digits, the least significant one first. Once it is trimmed, the last group is not 0; 0 has no groups.
type magnitude []uint32

// trim leaves out the groups at the end that are 0.
func trim(x magnitude) magnitude {
	for len(x) > 0 && x[len(x)-1] == 0 {
		x = x[:len(x)-1]
	}
	return x
}

// at returns the group with an index, which is 0 outside of x.
func (x magnitude) at(i int) uint32 {
	if i < 0 || i >= len(x) {
		return 0
	}
	return x[i]
}

func compare(x, y magnitude) int {
	if c := cmp.Compare(len(x), len(y)); c != 0 {
		return c
	}
	for i := len(x) - 1; i >= 0; i-- {
		if c := cmp.Compare(x[i], y[i]); c != 0 {
			return c
		}
	}
	return 0
}

func total(x, y magnitude) magnitude {
	groups := max(len(x), len(y)) + 1
	z := make(magnitude, groups)
	carry := uint32(0)
	for i := range groups {
		carry += x.at(i) + y.at(i)
		z[i] = carry % base
		carry /= base
	}
	return trim(z)
}

// difference returns x - y, where y is not greater than x.
func difference(x, y magnitude) magnitude {
	z := make(magnitude, len(x))
	borrow := uint32(0)
	for i := range x {
		from, take := x[i], y.at(i)+borrow
		borrow = 0
		if from < take {
			from += base
			borrow = 1
		}
		z[i] = from - take
	}
	return trim(z)
}

func product(x, y magnitude) magnitude {
	z := make(magnitude, len(x)+len(y))
	for i := range x {
		carry := uint64(0)
		for j := range y {
			carry += uint64(z[i+j]) + uint64(x[i])*uint64(y[j])
			z[i+j] = uint32(carry % base)
			carry /= base
		}
		z[i+len(y)] = uint32(carry)
	}
	return trim(z)
}

// divide returns the quotient and the rest of x by y, which is not 0.
func divide(x, y magnitude) (quotient, rest magnitude) {
	rest = make(magnitude, len(x)+1)
	copy(rest, x)
	quotient = make(magnitude, max(len(x)-len(y)+1, 0))
	for i := len(quotient) - 1; i >= 0; i-- {
		// This part of the rest is less than base times y, so that it holds y less than base times.
		part := rest[i : i+len(y)+1]
		times := guess(part, y)
		if take(part, y, times) {
			restore(part, y)
			times--
		}
		quotient[i] = uint32(times)
	}
	return trim(quotient), trim(rest)
}

// guess returns how many times part, which is less than base times y, holds y, or 1 more: it looks at the three most significant groups of part and the two of y only. As the two of y are at least base, what it leaves out changes their quotient by less than 1.
func guess(part, y magnitude) uint64 {
	n := len(y)
	divisor := uint64(y[n-1])*base + uint64(y.at(n-2))
	high, low := bits.Mul64(uint64(part[n])*base+uint64(part[n-1]), base)
	low, carry := bits.Add64(low, uint64(part.at(n-2)), 0)
	times, _ := bits.Div64(high+carry, low, divisor)
	return times
}

// take takes y from part a number of times, and tells whether part was too short for that; what stays is then too great by base to the power of its length.
func take(part, y magnitude, times uint64) bool {
	carry := uint64(0)
	for i := range part {
		carry += times * uint64(y.at(i))
		group := uint32(carry % base)
		carry /= base
		if part[i] < group {
			part[i] += base
			carry++
		}
		part[i] -= group
	}
	return carry > 0
}

// restore adds y to a part that was too short by at most y; the last carry is left out, as it makes up for what was too great.
func restore(part, y magnitude) {
	carry := uint32(0)
	for i := range part {
		carry += part[i] + y.at(i)
		part[i] = carry % base
		carry /= base
	}
}
