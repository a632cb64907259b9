package rational_test

import (
	"math"
	"math/big"
	"strconv"
	"testing"

	"novation/api"
	"novation/rational"
)

// P2.1

func TestCheckAcceptsCanonicalRationals(t *testing.T) {
	for _, a := range append(samples(), "7", "-7/12", "10/3", api.Rat(least), over(least, "2"), over(least, almost)) {
		if e := rational.Check(a); e != api.OK {
			t.Errorf("Check(%q) = %d", a, e)
		}
	}
}

func TestCheckRefusesMalformedTexts(t *testing.T) {
	for _, a := range malformed() {
		if e := rational.Check(a); e != api.ErrForm {
			t.Errorf("Check(%q) = %d", a, e)
		}
	}
}

func TestCheckRefusesLongPartsBeforeCommonDivisors(t *testing.T) {
	for _, a := range tooBig() {
		if e := rational.Check(a); e != api.ErrBig {
			t.Errorf("Check of %d bytes, %.20q.. = %d", len(a), a, e)
		}
	}
}

func TestCheckOfAllSmallFractions(t *testing.T) {
	for n := -40; n <= 40; n++ {
		for d := -4; d <= 40; d++ {
			common := new(big.Int).GCD(nil, nil, new(big.Int).Abs(big.NewInt(int64(n))), big.NewInt(int64(max(d, 0))))
			want := api.ErrForm
			if d > 1 && common.Int64() == 1 {
				want = api.OK
			}
			a := over(api.Int(strconv.Itoa(n)), api.Int(strconv.Itoa(d)))
			if e := rational.Check(a); e != want {
				t.Errorf("Check(%q) = %d", a, e)
			}
		}
	}
}

func TestCheckRefusesAllOtherBytes(t *testing.T) {
	for c := range 256 {
		s := api.Rat([]byte{byte(c)})
		digit := '0' <= c && c <= '9'
		for _, x := range []struct {
			a    api.Rat
			good bool
		}{{s, digit}, {"1/" + s, digit && c > '1'}, {s + "1/211", digit && c != '0' || c == '-'}, {"1" + s + "2", digit || c == '/'}, {"1/2" + s, digit}} {
			if e := rational.Check(x.a); (e == api.OK) != x.good || !x.good && e != api.ErrForm {
				t.Errorf("Check(%q) = %d", x.a, e)
			}
		}
	}
}

func TestParts(t *testing.T) {
	for _, c := range []struct {
		a    api.Rat
		n, d api.Int
	}{
		{"0", "0", "1"}, {"1", "1", "1"}, {"-7", "-7", "1"}, {"1/2", "1", "2"}, {"-22/7", "-22", "7"},
		{api.Rat(least), least, "1"}, {over(least, almost), least, almost}, {over("1", longest), "1", longest},
	} {
		if n, d, e := rational.Parts(c.a); n != c.n || d != c.d || e != api.OK {
			t.Errorf("Parts(%q) = %q, %q, %d", c.a, n, d, e)
		}
	}
}

// P2.2

func TestOf(t *testing.T) {
	for _, n := range []int{0, 1, -1, 10, 999999999, 1000000000, -1000000000, 1 << 53, math.MaxInt64, math.MinInt64, math.MinInt64 + 1} {
		if a := rational.Of(n); string(a) != strconv.Itoa(n) {
			t.Errorf("Of(%d) = %q", n, a)
		}
	}
}

func TestMake(t *testing.T) {
	parts := []api.Int{"0"}
	for _, n := range []api.Int{"1", "2", "3", "4", "6", "12", "18", "999999999", "1000000000", "9223372036854775808", lessHalf, half, almost, greatest, longest} {
		parts = append(parts, n, "-"+n)
	}
	for _, n := range parts {
		for _, d := range parts[1:] {
			want := api.Rat(new(big.Rat).SetFrac(bigOf(n), bigOf(d)).RatString())
			if a, e := rational.Make(n, d); a != want || e != api.OK {
				t.Errorf("Make(%q, %q) = %q, %d", n, d, a, e)
			}
		}
		if a, e := rational.Make(n, "0"); a != "" || e != api.ErrZero {
			t.Errorf("Make(%q, 0) = %q, %d", n, a, e)
		}
	}
}

func TestMakeRefusesWhatIsNoInteger(t *testing.T) {
	bad := []struct {
		n api.Int
		e api.Errno
	}{
		{"", api.ErrForm}, {"1/2", api.ErrForm}, {"-0", api.ErrForm}, {"01", api.ErrForm}, {"+1", api.ErrForm}, {"0" + tooLong, api.ErrForm},
		{tooLong, api.ErrBig}, {"-" + tooLong, api.ErrBig},
	}
	for _, c := range bad {
		for _, n := range []api.Int{"0", "1", "-3", greatest} {
			if a, e := rational.Make(c.n, n); a != "" || e != c.e {
				t.Errorf("Make(%q, %q) = %q, %d", c.n, n, a, e)
			}
			if a, e := rational.Make(n, c.n); a != "" || e != c.e {
				t.Errorf("Make(%q, %q) = %q, %d", n, c.n, a, e)
			}
		}
		for _, d := range bad {
			if a, e := rational.Make(c.n, d.n); a != "" || e != c.e {
				t.Errorf("Make(%q, %q) = %q, %d", c.n, d.n, a, e)
			}
		}
	}
}

func TestRatio(t *testing.T) {
	for _, c := range []struct {
		n, d int
		a    api.Rat
		e    api.Errno
	}{
		{6, 4, "3/2", api.OK}, {-6, 4, "-3/2", api.OK}, {6, -4, "-3/2", api.OK}, {-6, -4, "3/2", api.OK}, {0, -4, "0", api.OK}, {8, -4, "-2", api.OK},
		{1, 0, "", api.ErrZero}, {0, 0, "", api.ErrZero}, {math.MinInt64, 0, "", api.ErrZero},
		{math.MinInt64, 1, "-9223372036854775808", api.OK}, {math.MinInt64, -1, "9223372036854775808", api.OK}, {math.MinInt64, 2, "-4611686018427387904", api.OK},
		{1, math.MinInt64, "-1/9223372036854775808", api.OK}, {-1, math.MinInt64, "1/9223372036854775808", api.OK}, {0, math.MinInt64, "0", api.OK},
		{math.MinInt64, math.MinInt64, "1", api.OK}, {math.MinInt64, math.MaxInt64, "-9223372036854775808/9223372036854775807", api.OK},
		{math.MaxInt64, math.MinInt64, "-9223372036854775807/9223372036854775808", api.OK}, {math.MaxInt64, math.MaxInt64, "1", api.OK},
	} {
		if a, e := rational.Ratio(c.n, c.d); a != c.a || e != c.e {
			t.Errorf("Ratio(%d, %d) = %q, %d", c.n, c.d, a, e)
		}
	}
}

// P2.3

type binary struct {
	name string
	f    func(a, b api.Rat) (api.Rat, api.Errno)
}

func binaries() []binary {
	return []binary{{"Add", rational.Add}, {"Sub", rational.Sub}, {"Mul", rational.Mul}, {"Div", rational.Div}}
}

// wanted returns what the functions are to return, and what Compare is.
func wanted(a, b api.Rat) (results [4]api.Rat, errors [4]api.Errno, order int, e api.Errno) {
	x, y := ratOf(a), ratOf(b)
	mul := func(c, d *big.Int) *big.Int { return new(big.Int).Mul(c, d) }
	left, right, below := mul(x.Num(), y.Denom()), mul(y.Num(), x.Denom()), mul(x.Denom(), y.Denom())
	set := func(i int, n, d *big.Int, named ...*big.Int) {
		for _, k := range append(named, n, d) {
			if !fits(k) {
				errors[i] = api.ErrBig
				return
			}
		}
		if d.Sign() == 0 {
			errors[i] = api.ErrZero
			return
		}
		results[i] = api.Rat(new(big.Rat).SetFrac(n, d).RatString())
	}
	set(0, new(big.Int).Add(left, right), below, left, right)
	set(1, new(big.Int).Sub(left, right), below, left, right)
	set(2, mul(x.Num(), y.Num()), below)
	set(3, left, right)
	if !fits(left) || !fits(right) {
		return results, errors, 0, api.ErrBig
	}
	return results, errors, left.Cmp(right), api.OK
}

func TestExamples(t *testing.T) {
	for i, c := range []struct{ a, b, c api.Rat }{{"1/6", "1/3", "1/2"}, {"1/6", "1/3", "-1/6"}, {"-2", "4/3", "-8/3"}, {"-2", "4/3", "-3/2"}} {
		f := binaries()[i]
		if x, e := f.f(c.a, c.b); x != c.c || e != api.OK {
			t.Errorf("%s(%q, %q) = %q, %d", f.name, c.a, c.b, x, e)
		}
	}
}

func TestArithmeticAndOrder(t *testing.T) {
	pairs(func(a, b api.Rat) {
		results, errors, order, failed := wanted(a, b)
		for i, f := range binaries() {
			if c, e := f.f(a, b); c != results[i] || e != errors[i] {
				t.Errorf("%s(%q, %q) = %q, %d", f.name, a, b, c, e)
			}
		}
		if c, e := rational.Compare(a, b); c != order || e != failed {
			t.Errorf("Compare(%q, %q) = %d, %d", a, b, c, e)
		}
	})
}

// The numbers that the document names may be too long although what is left of them after reduction is not.
func TestLengthsBeforeReduction(t *testing.T) {
	h, l := api.Rat(half), api.Rat(lessHalf)
	add, sub, mul, div := binaries()[0], binaries()[1], binaries()[2], binaries()[3]
	for _, c := range []struct {
		f    binary
		a, b api.Rat
		c    api.Rat
		e    api.Errno
	}{
		{add, "1/" + h, "-1/" + l, over("-9", half), api.OK}, {add, "1/" + h, "1/" + h, "", api.ErrBig}, {sub, "1/" + h, "1/" + h, "", api.ErrBig},
		{add, "1/" + l, "1/" + l, over("1", "5"+lessHalf[2:]), api.OK}, {sub, "1/" + l, "1/" + l, "0", api.OK}, {add, "0", over("1", longest), over("1", longest), api.OK},
		{add, "1/11", over("1", longest), "", api.ErrBig}, {add, api.Rat(greatest), "1/2", "", api.ErrBig}, {sub, "1/2", api.Rat(greatest), "", api.ErrBig},
		{add, api.Rat(almost), "1", api.Rat(greatest), api.OK}, {add, api.Rat(greatest), "1", "", api.ErrBig}, {sub, api.Rat(greatest), "-1", "", api.ErrBig},
		{add, api.Rat(greatest), "-" + api.Rat(greatest), "0", api.OK}, {sub, api.Rat(greatest), api.Rat(greatest), "0", api.OK},
		{mul, h, l, api.Rat(longest), api.OK}, {mul, h, h, "", api.ErrBig}, {mul, h, "1/" + h, "1", api.OK}, {mul, "1/" + h, "-1/" + l, over("-1", longest), api.OK},
		{mul, "1/" + h, "1/" + h, "", api.ErrBig}, {mul, api.Rat(greatest), over("1", greatest), "1", api.OK}, {mul, "0", over("1", greatest), "0", api.OK},
		{mul, h + "/3", "3/" + h, "1", api.OK}, {mul, over(greatest, almost), "2", "", api.ErrBig}, {mul, over(greatest, almost), "1/2", "", api.ErrBig},
		{div, h, "1/" + l, api.Rat(longest), api.OK}, {div, h, "1/" + h, "", api.ErrBig}, {div, h, h, "1", api.OK}, {div, "1/" + h, "1/" + h, "1", api.OK},
		{div, "1/" + h, l, over("1", longest), api.OK}, {div, "1/" + h, h, "", api.ErrBig}, {div, "1/" + h, "-" + l, over("-1", longest), api.OK},
		{div, over(greatest, almost), over(greatest, almost), "", api.ErrBig}, {div, "0", over(least, almost), "0", api.OK}, {div, "1", over(least, almost), over("-"+almost, greatest), api.OK},
	} {
		if x, e := c.f.f(c.a, c.b); x != c.c || e != c.e {
			t.Errorf("%s(%q, %q) = %q, %d", c.f.name, c.a, c.b, x, e)
		}
	}
}

func TestLengthsInComparisons(t *testing.T) {
	h, l := api.Rat(half), api.Rat(lessHalf)
	for _, c := range []struct {
		a, b  api.Rat
		order int
		e     api.Errno
	}{
		{"-1/2", "-1/3", -1, api.OK}, {"1/2", "1/3", 1, api.OK}, {"0", "-1/3", 1, api.OK}, {"2/3", "2/3", 0, api.OK}, {"-9", "1/9", -1, api.OK},
		{api.Rat(greatest), api.Rat(almost), 1, api.OK}, {over("1", greatest), over("1", almost), -1, api.OK}, {api.Rat(greatest), "1/2", 0, api.ErrBig},
		{"1/2", api.Rat(greatest), 0, api.ErrBig}, {h, "1/" + l, 1, api.OK}, {h, "1/" + h, 0, api.ErrBig}, {"-1/" + h, h, 0, api.ErrBig}, {"0", over("1", greatest), -1, api.OK},
		{over(greatest, almost), over(greatest, almost), 0, api.ErrBig},
	} {
		if x, e := rational.Compare(c.a, c.b); x != c.order || e != c.e {
			t.Errorf("Compare(%q, %q) = %d, %d", c.a, c.b, x, e)
		}
	}
}

func TestDivisionByZero(t *testing.T) {
	for _, a := range samples() {
		if c, e := rational.Div(a, "0"); c != "" || e != api.ErrZero {
			t.Errorf("Div(%q, 0) = %q, %d", a, c, e)
		}
	}
}

// P1: the rules for errors and for state.

// invalid are texts that are no canonical rationals, with Check's errors.
func invalid() map[api.Rat]api.Errno {
	m := map[api.Rat]api.Errno{}
	for _, a := range malformed() {
		m[a] = api.ErrForm
	}
	for _, a := range tooBig() {
		m[a] = api.ErrBig
	}
	return m
}

func TestErrorOfTheFirstArgument(t *testing.T) {
	check := func(a, b api.Rat, want api.Errno) {
		for _, f := range binaries() {
			if c, e := f.f(a, b); c != "" || e != want {
				t.Errorf("%s(%.20q, %.20q) = %q, %d", f.name, a, b, c, e)
			}
		}
		if c, e := rational.Compare(a, b); c != 0 || e != want {
			t.Errorf("Compare(%.20q, %.20q) = %d, %d", a, b, c, e)
		}
	}
	bad := invalid()
	for a, want := range bad {
		for _, b := range []api.Rat{"0", "5", "-5/3", over("1", greatest)} {
			check(a, b, want)
			check(b, a, want)
		}
		for b := range bad {
			check(a, b, want)
		}
	}
}

func TestErrorOfTheOnlyArgument(t *testing.T) {
	for a, want := range invalid() {
		if n, d, e := rational.Parts(a); n != "" || d != "" || e != want {
			t.Errorf("Parts(%.20q) = %q, %q, %d", a, n, d, e)
		}
		for _, n := range []int{-1000, -1, 0, 1, 2, 1000} {
			if x, e := rational.Power(a, n); x != "" || e != want {
				t.Errorf("Power(%.20q, %d) = %q, %d", a, n, x, e)
			}
		}
		for mode := range api.RoundFloor + 1 {
			if x, e := rational.Round(a, mode); x != "" || e != want {
				t.Errorf("Round(%.20q, %d) = %q, %d", a, mode, x, e)
			}
		}
	}
}

func TestRepeatedCallsAgree(t *testing.T) {
	l := samples()
	for _, a := range l {
		for _, b := range l {
			for _, f := range binaries() {
				c, e := f.f(a, b)
				f.f("123456789/1000", "-987654321/2")
				if d, g := f.f(a, b); c != d || e != g {
					t.Errorf("%s(%q, %q)", f.name, a, b)
				}
			}
		}
	}
}
