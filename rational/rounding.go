package rational

import (
	"novation/api"
	"novation/integer"
)

// A place is where a number lies that is no integer: whether it is negative, whether the integer below it is odd, and whether it lies before (-1), on (0) or behind (1) the middle between this integer and the next one.
type place struct {
	negative, odd bool
	middle        int
}

// roundings returns the rules of the modes: whether the integer above a number is taken, and not the one below it.
func roundings() [5]func(p place) bool {
	return [...]func(p place) bool{
		api.RoundDown:  func(p place) bool { return p.negative },
		api.RoundUp:    func(p place) bool { return !p.negative },
		api.RoundHalf:  func(p place) bool { return p.middle > 0 || p.middle == 0 && !p.negative },
		api.RoundEven:  func(p place) bool { return p.middle > 0 || p.middle == 0 && p.odd },
		api.RoundFloor: func(p place) bool { return false },
	}
}

func round(x fraction, above func(p place) bool) (api.Int, api.Errno) {
	below, rest, e := integer.DivMod(x.n, x.d)
	if e != api.OK || rest == "0" {
		return below, e
	}
	// Twice the rest may have too many digits; what is left up to the denominator has not.
	left, e := integer.Sub(x.d, rest)
	if e != api.OK {
		return "", e
	}
	middle, e := integer.Compare(rest, left)
	if e != api.OK {
		return "", e
	}
	if above(place{negative(x.n), odd(below), middle}) {
		return integer.Add(below, "1")
	}
	return below, api.OK
}

func odd(n api.Int) bool {
	return (n[len(n)-1]-'0')%2 == 1
}
