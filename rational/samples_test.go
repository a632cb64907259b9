package rational_test

import (
	"math/big"
	"math/rand"
	"strings"
	"testing"

	"novation/api"
	"novation/rational"
)

// tens returns 10 to the power of n, which has n + 1 digits.
func tens(n int) api.Int {
	return api.Int("1" + strings.Repeat("0", n))
}

var (
	greatest = api.Int(strings.Repeat("9", api.MaxDigits)) // the greatest integer
	almost   = greatest[1:] + "8"                          // one less than that, and so without a common divisor
	least    = "-" + greatest                              // the least integer
	longest  = tens(api.MaxDigits - 1)                     // 1,000 digits
	tooLong  = tens(api.MaxDigits)                         // 1,001 digits
	half     = tens(api.MaxDigits / 2)                     // its square has 1,001 digits
	lessHalf = tens(api.MaxDigits/2 - 1)                   // that times half has 1,000 digits
)

func over(n, d api.Int) api.Rat {
	return api.Rat(n + "/" + d)
}

// malformed are texts that are no canonical rationals, and for which it does not matter how long they are.
func malformed() []api.Rat {
	l := []api.Rat{
		"", "-", "+", "/", "//", "1/", "/1", "/2", "-/2", "1/-", "1//2", "1/2/3", "1/2/", "/1/2", "1/2-", "1-/2", "--1/2", "-+1/2", "+1", "+1/2", "1/+2",
		"-0", "-0/2", "-0/1", "00", "01", "-01", "01/2", "00/2", "1/02", "1/00", "1/002",
		"1/0", "0/0", "-1/0", "1/1", "0/1", "-7/1", "1/-1", "1/-2", "-1/-2", "0/-1", "1/-0",
		"2/4", "-2/4", "6/3", "3/3", "-3/3", "0/2", "0/5", "0/1000000000", "35/49", "1000000000/1000000000", "999999999/1000000002",
		" 1/2", "1/2 ", "1 /2", "1/ 2", "1 2", "1/2\n", "\t1", "1.5", "1.", ".5", "1.5/2", "1/2.5", "1e3", "1/1e3", "0x1/2", "1_0/3", "1,000/3",
		"a", "a/2", "1/a", "1a/2", "1/2a", "Inf", "NaN", "1/Inf", "1:2", "1\\2", "1|2", "\u00bd", "1\u20442", "1\u22152", "\u0661/2", "1/\uff12", "\u22121/2",
		"1\x00/2", "1/\x002", "1/2\x00", "\xff", "1/\xff",
		over(tooLong, "1"), over(tooLong, "0"), over(tooLong, "-1"), over(tooLong, "-3"), over(tooLong, ""), over(tooLong, "x"), over(tooLong, "02"),
		over("", tooLong), over("x", tooLong), over("-0", tooLong), over("01", tooLong), over("1", "-"+tooLong), over("1", "0"+tooLong),
		over(tooLong, "-"+tooLong), over(tooLong, "0"+tooLong), over("0"+tooLong, tooLong), over(tooLong, tooLong+"/"), over("--"+tooLong, "3"),
		over(greatest, greatest), over(least, greatest), over("9", greatest), over(greatest, "9"), over("0", greatest), over(longest, "2"), over("2", longest),
	}
	return l
}

// tooBig are texts with parts of more than 1,000 digits that are otherwise well-formed, some of them with common divisors.
func tooBig() []api.Rat {
	return []api.Rat{
		api.Rat(tooLong), api.Rat("-" + tooLong), api.Rat(greatest + "9"),
		over(tooLong, "3"), over("-"+tooLong, "3"), over("3", tooLong), over("-3", tooLong), over(greatest, tooLong), over(tooLong, greatest),
		over(tooLong, "2"), over("2", tooLong), over("0", tooLong), over(tooLong, tooLong), over("-"+tooLong, tooLong), over(longest, tooLong),
		over(api.Int(strings.Repeat("7", 100000)), api.Int(strings.Repeat("7", 100000))),
	}
}

// samples are rationals at which signs, groups of digits and lengths change.
func samples() []api.Rat {
	l := []api.Rat{"0"}
	for _, a := range []api.Rat{
		"1", "2", "3", "10", "999999999", "1000000000", "9223372036854775808", api.Rat(lessHalf), api.Rat(half), api.Rat(almost), api.Rat(greatest), api.Rat(longest),
		"1/2", "1/3", "2/3", "1/6", "3/2", "5/2", "7/2", "4/3", "999999999/1000000000", "1000000001/1000000000", "1000000000/999999999", "1/9223372036854775807",
		over("1", lessHalf), over("1", half), over("3", half), over(half, "3"), over(half, lessHalf+"1"), over(lessHalf+"1", half),
		over("1", greatest), over("1", longest), over(greatest, "2"), over(greatest, almost), over(almost, greatest), over(longest, greatest), over(greatest, longest),
	} {
		l = append(l, a, "-"+a)
	}
	return l
}

func bigOf(n api.Int) *big.Int {
	x, ok := new(big.Int).SetString(string(n), 10)
	if !ok {
		panic("no integer: " + string(n))
	}
	return x
}

func ratOf(a api.Rat) *big.Rat {
	x, ok := new(big.Rat).SetString(string(a))
	if !ok {
		panic("no rational: " + string(a))
	}
	return x
}

func fits(n *big.Int) bool {
	return len(strings.TrimPrefix(n.String(), "-")) <= api.MaxDigits
}

// random returns a rational whose parts have 1 to most digits.
func random(r *rand.Rand, most int) api.Rat {
	part := func() *big.Int {
		b := make([]byte, 1+r.Intn(most))
		few := r.Intn(2) == 0
		for i := range b {
			b[i] = byte('0' + r.Intn(10))
			if few && r.Intn(9) > 0 {
				b[i] = "09"[r.Intn(2)]
			}
		}
		n, _ := new(big.Int).SetString(string(b), 10)
		return n
	}
	n, d := part(), part()
	if r.Intn(2) == 0 {
		n.Neg(n)
	}
	if d.Sign() == 0 || r.Intn(8) == 0 {
		d.SetInt64(1)
	}
	return api.Rat(new(big.Rat).SetFrac(n, d).RatString())
}

// pairs calls f with all pairs of samples, and with random pairs of many lengths.
func pairs(f func(a, b api.Rat)) {
	l := samples()
	for _, a := range l {
		for _, b := range l {
			f(a, b)
		}
	}
	r := rand.New(rand.NewSource(1))
	for range 1000 {
		f(random(r, 2), random(r, 2))
		f(random(r, 12), random(r, 12))
		f(random(r, 200), random(r, 60))
	}
	for range 200 {
		f(random(r, 520), random(r, 520))
	}
}

// do returns the result of a calculation that has no error.
func do(t *testing.T, f func(a, b api.Rat) (api.Rat, api.Errno), a, b api.Rat) api.Rat {
	t.Helper()
	c, e := f(a, b)
	if e != api.OK || rational.Check(c) != api.OK {
		t.Fatalf("of %q and %q: %q, %d", a, b, c, e)
	}
	return c
}
