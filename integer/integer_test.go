package integer_test

import (
	"math"
	"math/big"
	"math/rand"
	"strconv"
	"strings"
	"testing"

	"novation/api"
	"novation/integer"
)

var (
	greatest = api.Int(strings.Repeat("9", api.MaxDigits))           // the greatest integer
	almost   = greatest[1:] + "8"                                    // one less than that
	least    = "-" + greatest                                        // the least one
	round    = api.Int("1" + strings.Repeat("0", api.MaxDigits-1))   // 1,000 digits
	tooLong  = api.Int("1" + strings.Repeat("0", api.MaxDigits))     // 1,001 digits
	half     = api.Int("1" + strings.Repeat("0", api.MaxDigits/2))   // its square has 1,001 digits
	lessHalf = api.Int("1" + strings.Repeat("0", api.MaxDigits/2-1)) // that times half has 1,000 digits
)

// malformed are texts that are no canonical integers.
var malformed = []api.Int{
	"", "-", "+", "+1", "--1", "-+1", "-0", "00", "01", "-01", "007", "1-", "1-1", "- 1", " 1", "1 ", "1\n", "\t1",
	"1.0", "1.", ".5", "1e3", "1E3", "0x10", "0b1", "1_000", "1,000", "1/2", "a", "1a", "a1", "Inf", "NaN", "nil",
	"\x00", "1\x00", "/", ":", "1:", "/1", "\u0661", "\uff11", "\u22121", "\xff", "1\xff",
	api.Int(strings.Repeat("0", 1001)), "0" + tooLong, tooLong + "x", "-0" + tooLong, "--" + tooLong, tooLong + "-",
}

// samples are integers at which signs, groups of digits and lengths change.
func samples() []api.Int {
	list := []api.Int{"0"}
	for _, a := range []api.Int{
		"1", "2", "3", "9", "10", "11", "12", "99999999", "100000000", "999999998", "999999999", "1000000000", "1000000001",
		"999999999999999999", "1000000000000000000", "1000000000999999999", "999999999000000000000000000", "1000000000000000000000000001",
		"9223372036854775807", "9223372036854775808", "18446744073709551615", "18446744073709551616",
		"340282366920938463463374607431768211456", lessHalf, half, round, greatest,
	} {
		list = append(list, a, "-"+a)
	}
	return list
}

// random returns an integer of 1 to most digits, with many digits 0 and 9, at which carries and wrong guesses occur.
func random(r *rand.Rand, most int) api.Int {
	b := make([]byte, 1+r.Intn(most))
	style := r.Intn(4)
	for i := range b {
		switch {
		case style == 0 || r.Intn(20) == 0:
			b[i] = byte('0' + r.Intn(10))
		case style == 1:
			b[i] = '9'
		case style == 2:
			b[i] = '0'
		default:
			b[i] = "09"[(i/9+r.Intn(9)/8)%2]
		}
	}
	a := strings.TrimLeft(string(b), "0")
	switch {
	case a == "":
		return "0"
	case r.Intn(2) == 0:
		a = "-" + a
	}
	return api.Int(a)
}

// pairs calls f with all pairs of samples, and with random pairs of many lengths.
func pairs(f func(a, b api.Int)) {
	list := samples()
	for _, a := range list {
		for _, b := range list {
			f(a, b)
		}
	}
	r := rand.New(rand.NewSource(1))
	for range 3000 {
		f(random(r, 40), random(r, 40))
		f(random(r, 200), random(r, 60))
		f(random(r, api.MaxDigits), random(r, api.MaxDigits))
	}
}

func bigOf(a api.Int) *big.Int {
	n, ok := new(big.Int).SetString(string(a), 10)
	if !ok {
		panic("no integer: " + string(a))
	}
	return n
}

// want returns what a function is to return for a result: its text, or ErrBig.
func want(n *big.Int) (api.Int, api.Errno) {
	s := n.String()
	if len(strings.TrimPrefix(s, "-")) > api.MaxDigits {
		return "", api.ErrBig
	}
	return api.Int(s), api.OK
}

type binary struct {
	name string
	f    func(a, b api.Int) (api.Int, api.Errno)
}

var binaries = []binary{{"Add", integer.Add}, {"Sub", integer.Sub}, {"Mul", integer.Mul}, {"Gcd", integer.Gcd}}

// P1.1

func TestCheckAcceptsCanonicalIntegers(t *testing.T) {
	for _, a := range append(samples(), "7", "-7", "1234567890", least) {
		if e := integer.Check(a); e != api.OK {
			t.Errorf("Check(%q) = %d", a, e)
		}
	}
}

func TestCheckRefusesMalformedTexts(t *testing.T) {
	for _, a := range malformed {
		if e := integer.Check(a); e != api.ErrForm {
			t.Errorf("Check(%q) = %d", a, e)
		}
	}
}

func TestCheckRefusesAllOtherBytes(t *testing.T) {
	for c := range 256 {
		digit := '0' <= c && c <= '9'
		s := api.Int([]byte{byte(c)})
		for _, x := range []struct {
			a    api.Int
			good bool
		}{{s, digit}, {"1" + s, digit}, {"1" + s + "1", digit}, {s + "1", digit && c != '0' || c == '-'}} {
			if e := integer.Check(x.a); (e == api.OK) != x.good || !x.good && e != api.ErrForm {
				t.Errorf("Check(%q) = %d", x.a, e)
			}
		}
	}
}

func TestCheckCountsDigitsOnly(t *testing.T) {
	for _, c := range []struct {
		a api.Int
		e api.Errno
	}{
		{greatest, api.OK}, {least, api.OK}, {round, api.OK}, {"-" + round, api.OK},
		{tooLong, api.ErrBig}, {"-" + tooLong, api.ErrBig}, {greatest + "9", api.ErrBig}, {api.Int(strings.Repeat("1", 100000)), api.ErrBig},
	} {
		if e := integer.Check(c.a); e != c.e {
			t.Errorf("Check of %d bytes = %d", len(c.a), e)
		}
	}
}

func TestOfAndTo(t *testing.T) {
	for _, n := range []int{
		0, 1, -1, 9, 10, -10, 999999999, 1000000000, -1000000000, 1<<32 - 1, 1 << 32, 1<<53 + 1, 999999999999999999, 1000000000000000000,
		math.MaxInt64, math.MaxInt64 - 1, math.MinInt64, math.MinInt64 + 1,
	} {
		a := integer.Of(n)
		if string(a) != strconv.Itoa(n) {
			t.Errorf("Of(%d) = %q", n, a)
		}
		if m, e := integer.To(a); e != api.OK || m != n {
			t.Errorf("To(%q) = %d, %d", a, m, e)
		}
	}
}

func TestToAtItsBounds(t *testing.T) {
	for _, c := range []struct {
		a api.Int
		n int
		e api.Errno
	}{
		{"9223372036854775806", math.MaxInt64 - 1, api.OK}, {"9223372036854775807", math.MaxInt64, api.OK}, {"9223372036854775808", 0, api.ErrBig},
		{"-9223372036854775807", -math.MaxInt64, api.OK}, {"-9223372036854775808", math.MinInt64, api.OK}, {"-9223372036854775809", 0, api.ErrBig},
		{"18446744073709551616", 0, api.ErrBig}, {"-18446744073709551617", 0, api.ErrBig}, {"10000000000000000000", 0, api.ErrBig},
		{greatest, 0, api.ErrBig}, {least, 0, api.ErrBig}, {tooLong, 0, api.ErrBig}, {"-" + tooLong, 0, api.ErrBig},
	} {
		if n, e := integer.To(c.a); n != c.n || e != c.e {
			t.Errorf("To(%q) = %d, %d", c.a, n, e)
		}
	}
	for _, a := range malformed {
		if n, e := integer.To(a); n != 0 || e != api.ErrForm {
			t.Errorf("To(%q) = %d, %d", a, n, e)
		}
	}
}

// P1.2

func TestExamplesOfSumsAndProducts(t *testing.T) {
	if s, e := integer.Add("99999999999999999999", "1"); s != "100000000000000000000" || e != api.OK {
		t.Error(s, e)
	}
	if p, e := integer.Mul("-12", "12"); p != "-144" || e != api.OK {
		t.Error(p, e)
	}
	if d, e := integer.Sub("3", "5"); d != "-2" || e != api.OK {
		t.Error(d, e)
	}
}

func TestSumsDifferencesAndProducts(t *testing.T) {
	pairs(func(a, b api.Int) {
		x, y := bigOf(a), bigOf(b)
		for i, n := range []*big.Int{new(big.Int).Add(x, y), new(big.Int).Sub(x, y), new(big.Int).Mul(x, y)} {
			w, f := want(n)
			if c, e := binaries[i].f(a, b); c != w || e != f {
				t.Errorf("%s(%q, %q) = %q, %d", binaries[i].name, a, b, c, e)
			}
		}
	})
}

func TestResultsOfMostDigits(t *testing.T) {
	for _, c := range []struct {
		f       binary
		a, b, c api.Int
		e       api.Errno
	}{
		{binaries[0], almost, "1", greatest, api.OK}, {binaries[0], greatest, "1", "", api.ErrBig}, {binaries[0], "1", greatest, "", api.ErrBig},
		{binaries[0], "-" + almost, "-1", least, api.OK}, {binaries[0], least, "-1", "", api.ErrBig}, {binaries[0], greatest, least, "0", api.OK},
		{binaries[1], "-" + almost, "1", least, api.OK}, {binaries[1], least, "1", "", api.ErrBig}, {binaries[1], greatest, "-1", "", api.ErrBig},
		{binaries[1], almost, "-1", greatest, api.OK}, {binaries[1], "-1", greatest, "", api.ErrBig}, {binaries[1], greatest, greatest, "0", api.OK},
		{binaries[2], half, lessHalf, round, api.OK}, {binaries[2], "-" + half, lessHalf, "-" + round, api.OK},
		{binaries[2], half, half, "", api.ErrBig}, {binaries[2], half, "-" + half, "", api.ErrBig},
		{binaries[2], greatest, "-1", least, api.OK}, {binaries[2], greatest, "2", "", api.ErrBig}, {binaries[2], greatest, "0", "0", api.OK},
	} {
		if x, e := c.f.f(c.a, c.b); x != c.c || e != c.e {
			t.Errorf("%s(%q, %q) = %q, %d", c.f.name, c.a, c.b, x, e)
		}
	}
}

// P1.3

func TestDivModOfAllSigns(t *testing.T) {
	for _, c := range []struct{ a, b, q, r api.Int }{
		{"7", "2", "3", "1"}, {"-7", "2", "-4", "1"}, {"7", "-2", "-3", "1"}, {"-7", "-2", "4", "1"},
		{"6", "2", "3", "0"}, {"-6", "2", "-3", "0"}, {"6", "-2", "-3", "0"}, {"-6", "-2", "3", "0"},
		{"1", "5", "0", "1"}, {"-1", "5", "-1", "4"}, {"1", "-5", "0", "1"}, {"-1", "-5", "1", "4"},
		{"0", "5", "0", "0"}, {"0", "-5", "0", "0"}, {"-999999999", "1000000000", "-1", "1"},
		{least, "1", least, "0"}, {greatest, "-1", least, "0"}, {least, greatest, "-1", "0"}, {"-1", greatest, "-1", almost},
	} {
		if q, r, e := integer.DivMod(c.a, c.b); q != c.q || r != c.r || e != api.OK {
			t.Errorf("DivMod(%q, %q) = %q, %q, %d", c.a, c.b, q, r, e)
		}
	}
}

func TestQuotientsAndRests(t *testing.T) {
	check := func(a, b api.Int) {
		q, r, e := integer.DivMod(a, b)
		if b == "0" {
			if q != "" || r != "" || e != api.ErrZero {
				t.Errorf("DivMod(%q, 0) = %q, %q, %d", a, q, r, e)
			}
			return
		}
		x, y := new(big.Int).DivMod(bigOf(a), bigOf(b), new(big.Int))
		if string(q) != x.String() || string(r) != y.String() || e != api.OK {
			t.Errorf("DivMod(%q, %q) = %q, %q, %d", a, b, q, r, e)
		}
	}
	pairs(check)
	pairs(func(a, b api.Int) {
		// Multiples, and what lies beside them, lead to rests of 0 and to the greatest rests.
		p, e := integer.Mul(a, b)
		if e != api.OK {
			return
		}
		check(p, b)
		for _, c := range []api.Int{"1", "-1"} {
			if s, e := integer.Add(p, c); e == api.OK {
				check(s, b)
			}
		}
	})
}

// Groups at both ends of their range are those for which the quotient of the first groups is farthest off.
func TestQuotientsOfExtremeGroups(t *testing.T) {
	groups := []string{"000000000", "000000001", "499999999", "500000000", "999999998", "999999999"}
	list := []string{""}
	var all []*big.Int
	for range 4 {
		var longer []string
		for _, s := range list {
			for _, g := range groups {
				longer = append(longer, s+g)
			}
		}
		list = longer
		for _, s := range list {
			if n, _ := new(big.Int).SetString(s, 10); len(s) > 9 || n.Sign() > 0 {
				all = append(all, n)
			}
		}
	}
	r := rand.New(rand.NewSource(2))
	for _, x := range all {
		for range 40 {
			y := all[r.Intn(len(all))]
			if y.Sign() == 0 {
				continue
			}
			a, b := api.Int(x.String()), api.Int(y.String())
			q, m := new(big.Int).DivMod(x, y, new(big.Int))
			if c, d, e := integer.DivMod(a, b); string(c) != q.String() || string(d) != m.String() || e != api.OK {
				t.Fatalf("DivMod(%q, %q) = %q, %q, %d", a, b, c, d, e)
			}
		}
	}
}

func TestGcd(t *testing.T) {
	for _, c := range []struct{ a, b, g api.Int }{
		{"12", "-18", "6"}, {"12", "18", "6"}, {"-12", "18", "6"}, {"-12", "-18", "6"}, {"7", "13", "1"}, {"-1", "5", "1"}, {"6", "6", "6"},
		{"0", "0", "0"}, {"0", "5", "5"}, {"5", "0", "5"}, {"0", "-5", "5"}, {"-5", "0", "5"},
		{greatest, "0", greatest}, {"0", least, greatest}, {least, greatest, greatest}, {round, "1024", "1024"},
	} {
		if g, e := integer.Gcd(c.a, c.b); g != c.g || e != api.OK {
			t.Errorf("Gcd(%q, %q) = %q, %d", c.a, c.b, g, e)
		}
	}
	r := rand.New(rand.NewSource(3))
	for range 500 {
		common, a, b := bigOf(random(r, 300)), bigOf(random(r, 600)), bigOf(random(r, 60))
		x, y := a.Mul(a, common), b.Mul(b, common)
		w := new(big.Int).GCD(nil, nil, new(big.Int).Abs(x), new(big.Int).Abs(y))
		if g, e := integer.Gcd(api.Int(x.String()), api.Int(y.String())); string(g) != w.String() || e != api.OK {
			t.Errorf("Gcd(%s, %s) = %q, %d", x, y, g, e)
		}
	}
}

// Neighbours among Fibonacci's numbers need the most steps.
func TestGcdOfFibonacciNumbers(t *testing.T) {
	x, y := big.NewInt(1), big.NewInt(1)
	for len(y.String()) < api.MaxDigits {
		x, y = y, x.Add(x, y)
	}
	if g, e := integer.Gcd(api.Int(x.String()), api.Int(y.String())); g != "1" || e != api.OK {
		t.Error(g, e)
	}
}

// P1.4

func TestCompare(t *testing.T) {
	for _, c := range []struct {
		a, b api.Int
		c    int
	}{
		{"0", "0", 0}, {"0", "1", -1}, {"1", "0", 1}, {"0", "-1", 1}, {"-1", "0", -1}, {"-10", "9", -1}, {"-10", "-9", -1}, {"10", "9", 1},
		{"1000000000", "999999999", 1}, {"-1000000000", "-999999999", -1}, {"2000000000", "1000000001", 1},
		{greatest, least, 1}, {least, greatest, -1}, {greatest, greatest, 0}, {least, least, 0}, {round, greatest, -1},
	} {
		if x, e := integer.Compare(c.a, c.b); x != c.c || e != api.OK {
			t.Errorf("Compare(%q, %q) = %d, %d", c.a, c.b, x, e)
		}
	}
	pairs(func(a, b api.Int) {
		if c, e := integer.Compare(a, b); c != bigOf(a).Cmp(bigOf(b)) || e != api.OK {
			t.Errorf("Compare(%q, %q) = %d, %d", a, b, c, e)
		}
	})
}

// P1.5

// do returns the result of a calculation that has no error.
func do(t *testing.T, f func(a, b api.Int) (api.Int, api.Errno), a, b api.Int) api.Int {
	t.Helper()
	c, e := f(a, b)
	if e != api.OK || integer.Check(c) != api.OK {
		t.Fatalf("of %q and %q: %q, %d", a, b, c, e)
	}
	return c
}

func TestOrderedRing(t *testing.T) {
	r := rand.New(rand.NewSource(4))
	for range 2000 {
		a, b, c := random(r, 300), random(r, 300), random(r, 300)
		add := func(x, y api.Int) api.Int { return do(t, integer.Add, x, y) }
		sub := func(x, y api.Int) api.Int { return do(t, integer.Sub, x, y) }
		mul := func(x, y api.Int) api.Int { return do(t, integer.Mul, x, y) }
		// Equal integers have equal strings, so that the strings are compared.
		for law, holds := range map[string]bool{
			"a + b = b + a":               add(a, b) == add(b, a),
			"(a + b) + c = a + (b + c)":   add(add(a, b), c) == add(a, add(b, c)),
			"a + 0 = a":                   add(a, "0") == a,
			"a - a = 0":                   sub(a, a) == "0",
			"(a - b) + b = a":             add(sub(a, b), b) == a,
			"a - b = a + -1 * b":          sub(a, b) == add(a, mul("-1", b)),
			"a * b = b * a":               mul(a, b) == mul(b, a),
			"(a * b) * c = a * (b * c)":   mul(mul(a, b), c) == mul(a, mul(b, c)),
			"a * 1 = a":                   mul(a, "1") == a,
			"a * 0 = 0":                   mul(a, "0") == "0",
			"a * (b + c) = a * b + a * c": mul(a, add(b, c)) == add(mul(a, b), mul(a, c)),
		} {
			if !holds {
				t.Errorf("%s does not hold for %q, %q and %q", law, a, b, c)
			}
		}
		testOrder(t, a, b, c)
	}
}

func testOrder(t *testing.T, a, b, c api.Int) {
	compare := func(x, y api.Int) int {
		n, e := integer.Compare(x, y)
		if e != api.OK {
			t.Fatal(x, y, e)
		}
		return n
	}
	order := compare(a, b)
	if (order == 0) != (a == b) || compare(b, a) != -order || compare(a, a) != 0 {
		t.Errorf("order of %q and %q", a, b)
	}
	if compare(do(t, integer.Add, a, c), do(t, integer.Add, b, c)) != order {
		t.Errorf("order of %q and %q with %q added", a, b, c)
	}
	if compare(do(t, integer.Mul, a, c), do(t, integer.Mul, b, c)) != order*compare(c, "0") {
		t.Errorf("order of %q and %q multiplied by %q", a, b, c)
	}
}

// P1: the rules for errors, for all functions of two integers.

func TestErrorOfTheFirstArgument(t *testing.T) {
	good := []api.Int{"0", "5", "-5", greatest}
	check := func(a, b api.Int, w api.Errno) {
		for _, f := range binaries {
			if c, e := f.f(a, b); c != "" || e != w {
				t.Errorf("%s(%q, %q) = %q, %d", f.name, a, b, c, e)
			}
		}
		if q, r, e := integer.DivMod(a, b); q != "" || r != "" || e != w {
			t.Errorf("DivMod(%q, %q) = %q, %q, %d", a, b, q, r, e)
		}
		if c, e := integer.Compare(a, b); c != 0 || e != w {
			t.Errorf("Compare(%q, %q) = %d, %d", a, b, c, e)
		}
	}
	for _, a := range malformed {
		for _, b := range append(good, malformed...) {
			check(a, b, api.ErrForm)
		}
		for _, b := range good {
			check(b, a, api.ErrForm)
		}
		check(a, tooLong, api.ErrForm)
		check(tooLong, a, api.ErrBig)
	}
	for _, b := range append(good, tooLong) {
		check(tooLong, b, api.ErrBig)
		check("-"+tooLong, b, api.ErrBig)
		check(b, tooLong, api.ErrBig)
	}
}

func TestDivisionByZero(t *testing.T) {
	for _, a := range []api.Int{"0", "1", "-1", greatest, least} {
		if q, r, e := integer.DivMod(a, "0"); q != "" || r != "" || e != api.ErrZero {
			t.Errorf("DivMod(%q, 0) = %q, %q, %d", a, q, r, e)
		}
	}
}

func TestRepeatedCallsAgree(t *testing.T) {
	list := samples()
	for _, a := range list {
		for _, b := range list {
			for _, f := range binaries {
				c, e := f.f(a, b)
				f.f("123456789123456789", "-987654321")
				if d, g := f.f(a, b); c != d || e != g {
					t.Errorf("%s(%q, %q)", f.name, a, b)
				}
			}
		}
	}
}
