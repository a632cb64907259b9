package integer

import (
	"iter"
	"strconv"
	"strings"

	"novation/api"
)

// A number is an integer: whether it has a minus, which has no meaning for 0, and its magnitude.
type number struct {
	minus bool
	size  magnitude
}

// parse returns the number of a canonical integer.
func parse(a api.Int) number {
	digits, minus := strings.CutPrefix(string(a), "-")
	size := make(magnitude, 0, len(digits)/width+1)
	for group := range groups(digits) {
		size = append(size, group)
	}
	return number{minus, trim(size)}
}

// groups visits the values of the groups of nine digits, from the last one on.
func groups(digits string) iter.Seq[uint32] {
	return func(yield func(uint32) bool) {
		for end := len(digits); end > 0; end -= width {
			if !yield(value(digits[max(end-width, 0):end])) {
				return
			}
		}
	}
}

func value(digits string) uint32 {
	n := uint32(0)
	for i := range len(digits) {
		n = 10*n + uint32(digits[i]-'0')
	}
	return n
}

// text returns the canonical integer of n.
func text(n number) api.Int {
	if len(n.size) == 0 {
		return "0"
	}
	var b []byte
	if n.minus {
		b = append(b, '-')
	}
	first := len(n.size) - 1
	b = strconv.AppendUint(b, uint64(n.size[first]), 10)
	for i := first - 1; i >= 0; i-- {
		b = appendGroup(b, n.size[i])
	}
	return api.Int(b)
}

// appendGroup appends all nine digits of a group.
func appendGroup(b []byte, group uint32) []byte {
	for unit := uint32(base / 10); unit > 0; unit /= 10 {
		b = append(b, byte('0'+group/unit%10))
	}
	return b
}

// limited returns the canonical integer of n, or ErrBig if it has too many digits.
func limited(n number) (api.Int, api.Errno) {
	a := text(n)
	if e := Check(a); e != api.OK {
		return "", e
	}
	return a, api.OK
}

func opposite(n number) number {
	return number{!n.minus, n.size}
}

func sign(n number) int {
	switch {
	case len(n.size) == 0:
		return 0
	case n.minus:
		return -1
	}
	return 1
}

// sum has the sign of the number with the greater magnitude.
func sum(a, b number) number {
	opposed := a.minus != b.minus
	settle := func(greater, smaller number) number {
		if opposed {
			return number{greater.minus, difference(greater.size, smaller.size)}
		}
		return number{greater.minus, total(greater.size, smaller.size)}
	}
	if compare(a.size, b.size) < 0 {
		return settle(b, a)
	}
	return settle(a, b)
}
