package money_test

import (
	"math/big"
	"strings"
	"testing"

	"novation/api"
	"novation/money"
)

// P7.1

func TestUnitsOfCurrencies(t *testing.T) {
	for _, c := range currencies() {
		if n, e := money.Unit(c.ccy); n != c.unit || e != api.OK {
			t.Errorf("Unit(%q) = %d, %d", c.ccy, n, e)
		}
	}
}

func TestNoNamesHaveNoUnit(t *testing.T) {
	for _, ccy := range noNames {
		if n, e := money.Unit(ccy); n != 0 || e != api.ErrArg {
			t.Errorf("Unit(%q) = %d, %d", ccy, n, e)
		}
	}
}

func TestNamesOfAllBytes(t *testing.T) {
	for i := range 256 {
		c := string([]byte{byte(i)})
		letter := strings.Contains("abcdefghijklmnopqrstuvwxyzABCDEFGHIJKLMNOPQRSTUVWXYZ", c)
		inside := letter || strings.Contains("0123456789_-", c)
		for s, good := range map[string]bool{
			c: letter, c + "b": letter, c + c: letter, c + strings.Repeat("b", 39): letter, c + strings.Repeat("b", 40): false,
			"a" + c: inside, "a" + c + "b": inside, "b" + c + c + c: inside, strings.Repeat("a", 39) + c: inside, strings.Repeat("a", 40) + c: false,
		} {
			checkName(t, s, good)
		}
	}
}

func checkName(t *testing.T, s string, good bool) {
	t.Helper()
	unit, want := 0, api.ErrArg
	if good {
		unit, want = 2, api.OK
	}
	if n, e := money.Unit(s); n != unit || e != want {
		t.Errorf("Unit(%q) = %d, %d", s, n, e)
	}
}

func TestNamesOfAllLengths(t *testing.T) {
	for n := range 300 {
		checkName(t, strings.Repeat("x", n), n >= 1 && n <= 40)
		checkName(t, strings.Repeat("\u00e9", n), false)
	}
}

func toUnits(t *testing.T, r api.Rat, ccy string, mode uint8, want int, wantE api.Errno) {
	t.Helper()
	if n, e := money.ToUnits(r, ccy, mode); n != want || e != wantE {
		t.Errorf("ToUnits(%.60q, %q, %d) = %d, %d; not %d, %d", r, ccy, mode, n, e, want, wantE)
	}
}

func TestExamplesOfUnits(t *testing.T) {
	toUnits(t, "1/3", "EUR", api.RoundHalf, 33, api.OK)
	toUnits(t, "1/3", "EUR", api.RoundUp, 34, api.OK)
}

func TestUnitsByAllModes(t *testing.T) {
	for _, k := range []struct {
		r    api.Rat
		ccy  string
		want [5]int // Down, Up, Half, Even, Floor
	}{
		{"0", "EUR", [5]int{0, 0, 0, 0, 0}},
		{"12", "EUR", [5]int{1200, 1200, 1200, 1200, 1200}},
		{"-12", "VND", [5]int{-12, -12, -12, -12, -12}},
		{"5/2", "JPY", [5]int{2, 3, 3, 2, 2}},
		{"7/2", "KRW", [5]int{3, 4, 4, 4, 3}},
		{"-5/2", "JPY", [5]int{-2, -3, -3, -2, -3}},
		{"-7/2", "VND", [5]int{-3, -4, -4, -4, -4}},
		{"5/2", "USD", [5]int{250, 250, 250, 250, 250}},
		{"1/8", "USD", [5]int{12, 13, 13, 12, 12}},
		{"-1/8", "USD", [5]int{-12, -13, -13, -12, -13}},
		{"1/8", "KWD", [5]int{125, 125, 125, 125, 125}},
		{"1/16", "KWD", [5]int{62, 63, 63, 62, 62}},
		{"1/16", "jpy", [5]int{6, 7, 6, 6, 6}},
		{"-1/16", "BHD", [5]int{-62, -63, -63, -62, -63}},
		{"1/3", "TND", [5]int{333, 334, 333, 333, 333}},
		{"-2/3", "TND", [5]int{-666, -667, -667, -667, -667}},
		{"1/1000000", "EUR", [5]int{0, 1, 0, 0, 0}},
		{"-1/1000000", "EUR", [5]int{0, -1, 0, 0, -1}},
		{"1/200", "EUR", [5]int{0, 1, 1, 0, 0}},
		{"-1/200", "EUR", [5]int{0, -1, -1, 0, -1}},
		{"3/200", "EUR", [5]int{1, 2, 2, 2, 1}},
	} {
		for mode, want := range k.want {
			toUnits(t, k.r, k.ccy, uint8(mode), want, api.OK)
		}
	}
}

func TestUnitsOfSomeNumbers(t *testing.T) {
	for _, r := range rats() {
		x, _ := new(big.Rat).SetString(string(r))
		for _, c := range three {
			product := new(big.Rat).Mul(x, big.NewRat(int64(c.one), 1))
			for mode := range uint8(5) {
				if n := rounded(product, mode); isAmount(n) {
					toUnits(t, r, c.ccy, mode, int(n.Int64()), api.OK)
				} else {
					toUnits(t, r, c.ccy, mode, 0, api.ErrBig)
				}
			}
		}
	}
}

// TestUnitsAtTheEndsOfAmounts has numbers that are an amount if they are rounded towards 0 only.
func TestUnitsAtTheEndsOfAmounts(t *testing.T) {
	const most = api.MaxMoney
	for _, c := range three {
		for _, part := range []struct {
			n, d int64
			want [5]bool // whether one more part than the greatest amount is an amount, rounded
		}{
			{0, 1, [5]bool{true, true, true, true, true}},
			{1, 3, [5]bool{true, false, true, true, true}},
			{1, 2, [5]bool{true, false, false, true, true}},
			{2, 3, [5]bool{true, false, false, false, true}},
			{1, 1, [5]bool{}},
		} {
			x := new(big.Rat).Add(big.NewRat(most, 1), big.NewRat(part.n, part.d))
			x.Quo(x, big.NewRat(int64(c.one), 1))
			minus := new(big.Rat).Neg(x)
			for mode, good := range part.want {
				want, wantE, wantMinus, wantMinusE := most, api.OK, -most, api.OK
				if !good {
					want, wantE = 0, api.ErrBig
				}
				if !good || mode == int(api.RoundFloor) && part.n > 0 {
					wantMinus, wantMinusE = 0, api.ErrBig
				}
				toUnits(t, api.Rat(x.RatString()), c.ccy, uint8(mode), want, wantE)
				toUnits(t, api.Rat(minus.RatString()), c.ccy, uint8(mode), wantMinus, wantMinusE)
			}
		}
	}
}

func TestUnitsOfLargeNumbers(t *testing.T) {
	for _, r := range []api.Rat{"9223372036854775807", "9223372036854775808", "18446744073709551616", "92233720368547758080", "184467440737095516", "1152921504606846976", api.Rat(tens(20)), api.Rat(tens(500)), api.Rat(tens(999)), api.Rat(strings.Repeat("9", 1000)), api.Rat(tens(500) + "/3"), api.Rat(tensAnd1(999) + "/2")} {
		for _, c := range three {
			for mode := range uint8(5) {
				toUnits(t, r, c.ccy, mode, 0, api.ErrBig)
				toUnits(t, "-"+r, c.ccy, mode, 0, api.ErrBig)
			}
		}
	}
}

// TestUnitsOfLongProducts has numbers whose units are few, and whose numerators have MaxDigits digits, or one more, once they are multiplied.
func TestUnitsOfLongProducts(t *testing.T) {
	for _, c := range three {
		// Just below 10 * c.one units.
		for n := 990; n <= 999; n++ {
			r := api.Rat(tens(n) + "/" + tensAnd1(n-1))
			if n+1+c.unit <= api.MaxDigits {
				toUnits(t, r, c.ccy, api.RoundDown, 10*c.one-1, api.OK)
				toUnits(t, r, c.ccy, api.RoundUp, 10*c.one, api.OK)
				toUnits(t, r, c.ccy, api.RoundEven, 10*c.one, api.OK)
				toUnits(t, "-"+r, c.ccy, api.RoundFloor, -10*c.one, api.OK)
				continue
			}
			for mode := range uint8(5) {
				toUnits(t, r, c.ccy, mode, 0, api.ErrBig)
				toUnits(t, "-"+r, c.ccy, mode, 0, api.ErrBig)
			}
		}
		// The denominator may have as many digits as it likes.
		toUnits(t, api.Rat("1/"+tens(999)), c.ccy, api.RoundUp, 1, api.OK)
		toUnits(t, api.Rat("-1/"+strings.Repeat("9", 1000)), c.ccy, api.RoundFloor, -1, api.OK)
	}
	// It counts what the product is before it is reduced, as for Mul.
	toUnits(t, api.Rat(tensAnd1(997)+"/"+tens(997)), "EUR", api.RoundFloor, 100, api.OK)
	toUnits(t, api.Rat(tensAnd1(998)+"/"+tens(998)), "EUR", api.RoundFloor, 0, api.ErrBig)
	toUnits(t, api.Rat(tensAnd1(998)+"/"+tens(998)), "JPY", api.RoundFloor, 1, api.OK)
	toUnits(t, api.Rat(tensAnd1(996)+"/"+tens(996)), "KWD", api.RoundFloor, 1000, api.OK)
	toUnits(t, api.Rat(tensAnd1(997)+"/"+tens(997)), "KWD", api.RoundFloor, 0, api.ErrBig)
}

func TestUnitsOfNoNumbers(t *testing.T) {
	for _, r := range noRats() {
		for _, c := range three {
			for mode := range uint8(5) {
				toUnits(t, r, c.ccy, mode, 0, api.ErrForm)
			}
		}
	}
}

func TestUnitsByOtherModes(t *testing.T) {
	for mode := 5; mode < 256; mode++ {
		for _, r := range []api.Rat{"0", "5/2", "", "2/4", api.Rat(tens(999)), api.Rat(tens(1000))} {
			toUnits(t, r, "EUR", uint8(mode), 0, api.ErrArg)
			toUnits(t, r, "", uint8(mode), 0, api.ErrArg)
		}
	}
}

func TestUnitsInNoCurrency(t *testing.T) {
	for _, ccy := range noNames {
		for _, r := range []api.Rat{"0", "5/2", "", "2/4", api.Rat(tens(999)), api.Rat(tens(1000))} {
			toUnits(t, r, ccy, api.RoundHalf, 0, api.ErrArg)
		}
	}
}

func TestNumbersOfUnits(t *testing.T) {
	for _, k := range []struct {
		n    int
		ccy  string
		want api.Rat
	}{
		{0, "EUR", "0"}, {0, "JPY", "0"}, {0, "KWD", "0"}, {150, "EUR", "3/2"}, {-1205, "EUR", "-241/20"}, {100, "EUR", "1"}, {1, "EUR", "1/100"}, {7, "JPY", "7"}, {-7, "KRW", "-7"}, {7, "KWD", "7/1000"}, {-1000, "TND", "-1"}, {500, "BHD", "1/2"},
		{api.MaxMoney, "JPY", "1125899906842624"}, {-api.MaxMoney, "JPY", "-1125899906842624"}, {api.MaxMoney, "EUR", "281474976710656/25"}, {-api.MaxMoney, "KWD", "-140737488355328/125"},
	} {
		if r, e := money.FromUnits(k.n, k.ccy); r != k.want || e != api.OK {
			t.Errorf("FromUnits(%d, %q) = %q, %d", k.n, k.ccy, r, e)
		}
	}
	for _, n := range amounts() {
		for _, c := range currencies() {
			want := api.Rat(big.NewRat(int64(n), int64(c.one)).RatString())
			if r, e := money.FromUnits(n, c.ccy); r != want || e != api.OK {
				t.Errorf("FromUnits(%d, %q) = %q, %d; not %q", n, c.ccy, r, e, want)
			}
		}
	}
}

func TestNumbersOfNoUnits(t *testing.T) {
	check := func(n int, ccy string) {
		if r, e := money.FromUnits(n, ccy); r != "" || e != api.ErrArg {
			t.Errorf("FromUnits(%d, %q) = %q, %d", n, ccy, r, e)
		}
	}
	for _, n := range noAmounts {
		for _, c := range currencies() {
			check(n, c.ccy)
		}
		for _, ccy := range noNames {
			check(n, ccy)
			check(1, ccy)
		}
	}
}
