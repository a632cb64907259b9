package rational_test

import (
	"math"
	"math/big"
	"math/rand"
	"slices"
	"strconv"
	"testing"

	"novation/api"
	"novation/rational"
)

// P2.4: sums

func repeated(a api.Rat, n int) []api.Rat {
	return slices.Repeat([]api.Rat{a}, n)
}

func TestSum(t *testing.T) {
	for _, c := range []struct {
		l []api.Rat
		s api.Rat
	}{
		{nil, "0"}, {[]api.Rat{}, "0"}, {[]api.Rat{"0"}, "0"}, {[]api.Rat{"-7/3"}, "-7/3"}, {[]api.Rat{"1/2", "1/3", "1/6"}, "1"}, {[]api.Rat{"1/2", "-1/2"}, "0"},
		{[]api.Rat{over(greatest, almost)}, over(greatest, almost)}, {[]api.Rat{"0", over(least, "2"), "0"}, over(least, "2")},
		{repeated("1/1000", 999), "999/1000"}, {repeated("1/1000", 1000), "1"}, {repeated("-1/7", 1000), "-1000/7"},
	} {
		if s, e := rational.Sum(c.l); s != c.s || e != api.OK {
			t.Errorf("Sum of %d elements = %q, %d", len(c.l), s, e)
		}
	}
}

// The sum of 1 / (k (k + 1)) for k from 1 to n is n / (n + 1).
func TestSumOfTelescope(t *testing.T) {
	var l []api.Rat
	for k := 1; k <= api.MaxTable; k++ {
		l = append(l, over("1", api.Int(strconv.Itoa(k*(k+1)))))
	}
	for n := 1; n <= api.MaxTable; n += 37 {
		if s, e := rational.Sum(l[:n]); s != over(api.Int(strconv.Itoa(n)), api.Int(strconv.Itoa(n+1))) || e != api.OK {
			t.Errorf("Sum of %d elements = %q, %d", n, s, e)
		}
	}
}

func TestSumAddsFromTheFirstElementOn(t *testing.T) {
	r := rand.New(rand.NewSource(2))
	bigs := 0
	for range 100 {
		var l []api.Rat
		for range r.Intn(30) {
			l = append(l, random(r, 100))
		}
		total, failed := api.Rat("0"), api.OK
		for _, a := range l {
			if total, failed = rational.Add(total, a); failed != api.OK {
				bigs++
				break
			}
		}
		if s, e := rational.Sum(l); s != total || e != failed {
			t.Errorf("Sum(%q) = %q, %d", l, s, e)
		}
	}
	if bigs == 0 {
		t.Error("no sum was too long")
	}
}

func TestSumOfNumbersThatAreTooLongOnTheWay(t *testing.T) {
	g, h := api.Rat(greatest), api.Rat(half)
	for _, c := range []struct {
		l []api.Rat
		s api.Rat
		e api.Errno
	}{
		{[]api.Rat{g, "1"}, "", api.ErrBig}, {[]api.Rat{g, "1", "-1"}, "", api.ErrBig}, {[]api.Rat{"1", "-1", g}, g, api.OK}, {[]api.Rat{g, "-1", "1"}, g, api.OK},
		{[]api.Rat{"-" + g, "-1", "2"}, "", api.ErrBig}, {[]api.Rat{"1/" + h, "-1/" + h}, "", api.ErrBig}, {[]api.Rat{"1/" + h, "-1/" + api.Rat(lessHalf)}, "-9/" + h, api.OK},
		{[]api.Rat{"1/2", g}, "", api.ErrBig}, {[]api.Rat{"1/2", "1/2", api.Rat(almost)}, g, api.OK}, {[]api.Rat{"1/2", api.Rat(almost), "1/2"}, "", api.ErrBig},
	} {
		if s, e := rational.Sum(c.l); s != c.s || e != c.e {
			t.Errorf("Sum(%q) = %q, %d", c.l, s, e)
		}
	}
}

func TestErrorsOfSum(t *testing.T) {
	g := api.Rat(greatest)
	at := func(n, i int, a api.Rat) []api.Rat {
		l := repeated("1/3", n)
		l[i] = a
		return l
	}
	for _, c := range []struct {
		l []api.Rat
		e api.Errno
	}{
		{repeated("0", 1001), api.ErrMany}, {repeated("", 1001), api.ErrMany}, {at(1001, 0, "2/4"), api.ErrMany}, {repeated(g, 1001), api.ErrMany}, {repeated("1", 5000), api.ErrMany},
		{at(1000, 0, "2/4"), api.ErrForm}, {at(1000, 999, "2/4"), api.ErrForm}, {at(1000, 999, api.Rat(tooLong)), api.ErrBig}, {[]api.Rat{""}, api.ErrForm},
		{[]api.Rat{"1", "1/0", over("1", tooLong)}, api.ErrForm}, {[]api.Rat{"1", over("1", tooLong), "1/0"}, api.ErrBig},
		// All elements are checked before one is added.
		{[]api.Rat{g, g, "1/1"}, api.ErrForm}, {[]api.Rat{g, g, "1"}, api.ErrBig},
	} {
		if s, e := rational.Sum(c.l); s != "" || e != c.e {
			t.Errorf("Sum of %d elements = %q, %d", len(c.l), s, e)
		}
	}
}

func TestSumLeavesItsArgument(t *testing.T) {
	l := []api.Rat{"1/2", "-3", "7/5", "2/4", "x"}
	before := slices.Clone(l)
	if s, e := rational.Sum(l[:3]); s != "-11/10" || e != api.OK {
		t.Error(s, e)
	}
	rational.Sum(l)
	if !slices.Equal(l, before) {
		t.Error(l)
	}
}

// P2.4: powers

func TestPower(t *testing.T) {
	third := api.Rat(tens(333))
	for _, c := range []struct {
		a api.Rat
		n int
		p api.Rat
		e api.Errno
	}{
		{"2/3", 3, "8/27", api.OK}, {"2/3", -3, "27/8", api.OK}, {"-2/3", 3, "-8/27", api.OK}, {"-2/3", -3, "-27/8", api.OK}, {"-2/3", -2, "9/4", api.OK}, {"-2", -1, "-1/2", api.OK},
		{"5/7", 0, "1", api.OK}, {"5/7", 1, "5/7", api.OK}, {"5/7", -1, "7/5", api.OK}, {"-1/5", -3, "-125", api.OK},
		{"0", 0, "1", api.OK}, {"0", 1, "0", api.OK}, {"0", 1000, "0", api.OK}, {"0", -1, "", api.ErrZero}, {"0", -1000, "", api.ErrZero},
		{"1", 1000, "1", api.OK}, {"1", -1000, "1", api.OK}, {"-1", 1000, "1", api.OK}, {"-1", 999, "-1", api.OK}, {"-1", -999, "-1", api.OK}, {"-1", -1000, "1", api.OK},
		{"10", 999, api.Rat(longest), api.OK}, {"10", 1000, "", api.ErrBig}, {"-10", 999, "-" + api.Rat(longest), api.OK}, {"-10", 1000, "", api.ErrBig},
		{"10", -999, over("1", longest), api.OK}, {"10", -1000, "", api.ErrBig}, {"-1/10", -999, "-" + api.Rat(longest), api.OK}, {"1/10", -1000, "", api.ErrBig}, {"1/10", 1000, "", api.ErrBig},
		{third, 3, api.Rat(longest), api.OK}, {third, 4, "", api.ErrBig}, {third + "0", 3, "", api.ErrBig}, {"1/" + third, 3, over("1", longest), api.OK}, {third, -3, over("1", longest), api.OK},
		{api.Rat(half), 2, "", api.ErrBig}, {api.Rat(lessHalf), 2, api.Rat(tens(998)), api.OK},
		{api.Rat(greatest), 0, "1", api.OK}, {api.Rat(greatest), 1, api.Rat(greatest), api.OK}, {api.Rat(greatest), -1, over("1", greatest), api.OK}, {api.Rat(greatest), 2, "", api.ErrBig},
		{over(least, almost), -1, over("-"+almost, greatest), api.OK}, {over(least, almost), 1, over(least, almost), api.OK}, {over(least, almost), -2, "", api.ErrBig},
	} {
		if p, e := rational.Power(c.a, c.n); p != c.p || e != c.e {
			t.Errorf("Power(%q, %d) = %q, %d", c.a, c.n, p, e)
		}
	}
}

func TestPowersOfAllExponents(t *testing.T) {
	one := big.NewInt(1)
	for _, a := range []api.Rat{"1", "-1", "2", "-2", "10", "-3/7", "9/10", "99/98", "1/11", "-123456789/1000", api.Rat(tens(100)), over("-1", tens(99))} {
		up, down := new(big.Int).Set(one), new(big.Int).Set(one)
		long := 0 // how many powers in a row were too long
		for n := 0; n <= 1000 && long < 10; n++ {
			for _, c := range []struct {
				n    int
				x, y *big.Int
			}{{n, up, down}, {-n, down, up}} {
				want, failed := api.Rat(""), api.ErrBig
				if fits(up) && fits(down) {
					want, failed = api.Rat(new(big.Rat).SetFrac(c.x, c.y).RatString()), api.OK
				}
				if p, e := rational.Power(a, c.n); p != want || e != failed {
					t.Fatalf("Power(%q, %d) = %q, %d", a, c.n, p, e)
				}
			}
			if !fits(up) || !fits(down) {
				long++
			}
			up, down = up.Mul(up, ratOf(a).Num()), down.Mul(down, ratOf(a).Denom())
		}
	}
}

func TestExponentsOutOfRange(t *testing.T) {
	for _, n := range []int{1001, -1001, 1002, 1 << 32, -1 << 32, math.MaxInt64, math.MinInt64} {
		for _, a := range []api.Rat{"1", "0", "2/3", api.Rat(greatest), "", "1/1", api.Rat(tooLong)} {
			if p, e := rational.Power(a, n); p != "" || e != api.ErrArg {
				t.Errorf("Power(%.20q, %d) = %q, %d", a, n, p, e)
			}
		}
	}
}

// P2.5

func TestRoundingOfHalvesAndOthers(t *testing.T) {
	for _, c := range []struct {
		a       api.Rat
		results [5]api.Int
	}{
		{"0", [5]api.Int{"0", "0", "0", "0", "0"}},
		{"3", [5]api.Int{"3", "3", "3", "3", "3"}},
		{"-3", [5]api.Int{"-3", "-3", "-3", "-3", "-3"}},
		{"1/2", [5]api.Int{"0", "1", "1", "0", "0"}},
		{"-1/2", [5]api.Int{"0", "-1", "-1", "0", "-1"}},
		{"3/2", [5]api.Int{"1", "2", "2", "2", "1"}},
		{"-3/2", [5]api.Int{"-1", "-2", "-2", "-2", "-2"}},
		{"5/2", [5]api.Int{"2", "3", "3", "2", "2"}},
		{"-5/2", [5]api.Int{"-2", "-3", "-3", "-2", "-3"}},
		{"19/2", [5]api.Int{"9", "10", "10", "10", "9"}},
		{"-21/2", [5]api.Int{"-10", "-11", "-11", "-10", "-11"}},
		{"1/3", [5]api.Int{"0", "1", "0", "0", "0"}},
		{"-1/3", [5]api.Int{"0", "-1", "0", "0", "-1"}},
		{"2/3", [5]api.Int{"0", "1", "1", "1", "0"}},
		{"-2/3", [5]api.Int{"0", "-1", "-1", "-1", "-1"}},
		{"7/3", [5]api.Int{"2", "3", "2", "2", "2"}},
		{"-7/3", [5]api.Int{"-2", "-3", "-2", "-2", "-3"}},
		{"499999999/1000000000", [5]api.Int{"0", "1", "0", "0", "0"}},
		{"500000001/1000000000", [5]api.Int{"0", "1", "1", "1", "0"}},
		{"-500000001/1000000000", [5]api.Int{"0", "-1", "-1", "-1", "-1"}},
		{api.Rat(greatest), [5]api.Int{greatest, greatest, greatest, greatest, greatest}},
		{over("1", greatest), [5]api.Int{"0", "1", "0", "0", "0"}},
		{over("-1", greatest), [5]api.Int{"0", "-1", "0", "0", "-1"}},
		{over(almost, greatest), [5]api.Int{"0", "1", "1", "1", "0"}},
		{over("-"+almost, greatest), [5]api.Int{"0", "-1", "-1", "-1", "-1"}},
		{over(greatest, almost), [5]api.Int{"1", "2", "1", "1", "1"}},
		{over(least, almost), [5]api.Int{"-1", "-2", "-1", "-1", "-2"}},
		{over("5"+longest[3:]+"1", longest), [5]api.Int{"0", "1", "1", "1", "0"}},
		{over("4"+greatest[2:], longest), [5]api.Int{"0", "1", "0", "0", "0"}},
	} {
		for mode, want := range c.results {
			if n, e := rational.Round(c.a, uint8(mode)); n != want || e != api.OK {
				t.Errorf("Round(%q, %d) = %q, %d", c.a, mode, n, e)
			}
		}
	}
}

// rounded returns the integers to which x is rounded, by other calculations than those of the program.
func rounded(x *big.Rat) [5]*big.Int {
	floor := func(x *big.Rat) *big.Int { return new(big.Int).Div(x.Num(), x.Denom()) }
	ceiling := new(big.Int).Neg(floor(new(big.Rat).Neg(x)))
	towards, away := new(big.Int).Set(floor(x)), ceiling
	if x.Sign() < 0 {
		towards, away = ceiling, floor(x)
	}
	nearest := floor(new(big.Rat).Add(new(big.Rat).Abs(x), big.NewRat(1, 2)))
	even := new(big.Int).Set(nearest)
	if x.Denom().Cmp(big.NewInt(2)) == 0 && even.Bit(0) == 1 {
		even.Sub(even, big.NewInt(1))
	}
	if x.Sign() < 0 {
		nearest.Neg(nearest)
		even.Neg(even)
	}
	return [5]*big.Int{towards, away, nearest, even, floor(x)}
}

func TestRoundingOfManyNumbers(t *testing.T) {
	l := samples()
	r := rand.New(rand.NewSource(3))
	for range 300 {
		l = append(l, random(r, 2), random(r, 30), random(r, 1000))
	}
	for n := -60; n <= 60; n++ {
		for d := 2; d <= 8; d++ {
			l = append(l, api.Rat(big.NewRat(int64(n), int64(d)).RatString()))
		}
	}
	for _, a := range l {
		for mode, want := range rounded(ratOf(a)) {
			if n, e := rational.Round(a, uint8(mode)); string(n) != want.String() || e != api.OK {
				t.Errorf("Round(%q, %d) = %q, %d", a, mode, n, e)
			}
		}
	}
}

func TestUnknownModes(t *testing.T) {
	for mode := 5; mode < 256; mode++ {
		for _, a := range []api.Rat{"1/2", "0", "", "2/4", api.Rat(tooLong)} {
			if n, e := rational.Round(a, uint8(mode)); n != "" || e != api.ErrArg {
				t.Errorf("Round(%.20q, %d) = %q, %d", a, mode, n, e)
			}
		}
	}
}
