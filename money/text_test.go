package money_test

import (
	"fmt"
	"math/big"
	"math/rand"
	"strings"
	"testing"

	"novation/api"
	"novation/money"
)

// P7.3

// textOf returns the text of an integer in a currency.
func textOf(n *big.Int, c currency) string {
	size := new(big.Int).Abs(n)
	sign := ""
	if n.Sign() < 0 {
		sign = "-"
	}
	if c.unit == 0 {
		return sign + size.String() + " " + c.ccy
	}
	whole, last := new(big.Int).DivMod(size, big.NewInt(int64(c.one)), new(big.Int))
	return fmt.Sprintf("%s%d.%0*d %s", sign, whole, c.unit, last, c.ccy)
}

func checkRead(t *testing.T, s string, wantN int, wantCcy string, want api.Errno) {
	t.Helper()
	if n, ccy, e := money.Read(s); n != wantN || ccy != wantCcy || e != want {
		t.Errorf("Read(%.80q) = %d, %q, %d; not %d, %q, %d", s, n, ccy, e, wantN, wantCcy, want)
	}
}

func checkText(t *testing.T, n int, ccy, want string) {
	t.Helper()
	if s, e := money.Show(n, ccy); s != want || e != api.OK {
		t.Errorf("Show(%d, %q) = %q, %d; not %q", n, ccy, s, e, want)
	}
	checkRead(t, want, n, ccy, api.OK)
}

func TestNamedTexts(t *testing.T) {
	for _, k := range []struct {
		n    int
		ccy  string
		want string
	}{
		{-1205, "EUR", "-12.05 EUR"}, {7, "JPY", "7 JPY"}, {7, "KWD", "0.007 KWD"},
		{0, "EUR", "0.00 EUR"}, {0, "JPY", "0 JPY"}, {0, "KWD", "0.000 KWD"}, {1, "EUR", "0.01 EUR"}, {-1, "EUR", "-0.01 EUR"}, {10, "EUR", "0.10 EUR"}, {99, "EUR", "0.99 EUR"}, {100, "EUR", "1.00 EUR"}, {-100, "EUR", "-1.00 EUR"}, {1000, "EUR", "10.00 EUR"},
		{-7, "JPY", "-7 JPY"}, {10, "KRW", "10 KRW"}, {1000, "VND", "1000 VND"}, {999, "BHD", "0.999 BHD"}, {1000, "TND", "1.000 TND"}, {-1001, "KWD", "-1.001 KWD"}, {5, "jpy", "0.05 jpy"}, {5, "JPYX", "0.05 JPYX"}, {-50, "a", "-0.50 a"},
		{api.MaxMoney, "JPY", "1125899906842624 JPY"}, {-api.MaxMoney, "JPY", "-1125899906842624 JPY"}, {api.MaxMoney, "EUR", "11258999068426.24 EUR"}, {-api.MaxMoney, "EUR", "-11258999068426.24 EUR"}, {api.MaxMoney, "KWD", "1125899906842.624 KWD"}, {-api.MaxMoney, "KWD", "-1125899906842.624 KWD"},
	} {
		checkText(t, k.n, k.ccy, k.want)
	}
}

func TestTextsOfSomeAmounts(t *testing.T) {
	for _, c := range currencies() {
		for _, n := range amounts() {
			checkText(t, n, c.ccy, textOf(big.NewInt(int64(n)), c))
		}
	}
	for _, c := range three {
		for n := -12345; n <= 12345; n++ {
			checkText(t, n, c.ccy, textOf(big.NewInt(int64(n)), c))
		}
	}
}

func TestTextsOfNoAmounts(t *testing.T) {
	check := func(n int, ccy string) {
		if s, e := money.Show(n, ccy); s != "" || e != api.ErrArg {
			t.Errorf("Show(%d, %q) = %q, %d", n, ccy, s, e)
		}
	}
	for _, n := range noAmounts {
		for _, c := range currencies() {
			check(n, c.ccy)
		}
		for _, ccy := range noNames {
			check(n, ccy)
		}
	}
	for _, ccy := range noNames {
		check(0, ccy)
		check(-1205, ccy)
	}
}

func TestReadIntegersThatAreNoAmounts(t *testing.T) {
	var l []*big.Int
	for _, n := range noAmounts {
		l = append(l, big.NewInt(int64(n)))
	}
	for _, digits := range []string{"1125899906842625", "9223372036854775808", "18446744073709551616", "18446744073709551623", tens(19), tens(20), tens(998), tens(999), tens(1000), tens(1001), tens(20000), strings.Repeat("9", 1000), strings.Repeat("9", 1001)} {
		n, _ := new(big.Int).SetString(digits, 10)
		l = append(l, n, new(big.Int).Neg(n))
	}
	for _, c := range three {
		for _, n := range l {
			s := textOf(n, c)
			checkRead(t, s, 0, "", api.ErrBig)
			// The form counts first.
			for _, bad := range []string{s + " ", " " + s, "0" + s, "-0" + s, "+" + s, s + strings.Repeat("x", 41), strings.Replace(s, " ", "", 1), strings.Replace(s, " ", "x ", 1), strings.Replace(s, " ", ". ", 1), strings.Replace(s, " ", "0 1", 1)} {
				checkRead(t, bad, 0, "", api.ErrForm)
			}
		}
	}
}

func TestReadOtherTexts(t *testing.T) {
	for _, s := range []string{
		"", " ", "  ", "-", ".", "- ", ". ", "-.", "EUR", "JPY", " EUR", " JPY", "- EUR", "- JPY", ". EUR", "-. EUR", "- KWD", "0", "0.00", "12.05", "-12.05", "-7",
		// zeros and signs
		"-0.00 EUR", "-0 JPY", "-0.000 KWD", "00.00 EUR", "00 JPY", "00.000 KWD", "01.00 EUR", "007.00 EUR", "01 JPY", "-01 JPY", "-01.00 EUR", "-00.01 EUR", "00.01 EUR", "00.001 KWD", "01.000 KWD", "+1.00 EUR", "+1 JPY", "+0.00 EUR", "--1.00 EUR", "--1 JPY", "-+1 JPY", "+-1 JPY", "0-1.00 EUR", "1-0.00 EUR", "1.-00 EUR", "1.0- EUR", "1.00- EUR", "1- JPY", "(1.00) EUR",
		// digits after the point
		"1 EUR", "1. EUR", "1.0 EUR", "1.000 EUR", "1.0000 EUR", "100 EUR", "1.00 JPY", "1.0 JPY", "1. JPY", "0.0 JPY", "10.0 JPY", "1 KWD", "1.0 KWD", "1.00 KWD", "1.0000 KWD", "1.00 BHD", "1.00 TND", "1.0 KRW", "1.0 VND", "7 jpy", "7 JPYX", "7.000 kwd",
		// the point
		".00 EUR", ".05 EUR", ".005 KWD", "-.05 EUR", ".5 EUR", ".7 JPY", "7. JPY", "1..00 EUR", "1.0.0 EUR", "1.00. EUR", ".1.00 EUR", "1.00.00 EUR", "..1 EUR", "10.0.00 EUR", "1,00 EUR", "1,000.00 EUR", "1.000,00 EUR", "1.000.000 KWD", "12:05 EUR", "1205. EUR", "1_000.00 EUR", "1'000.00 EUR", "120.5 EUR",
		// spaces
		"1.00EUR", "1.00  EUR", "1.00 EUR ", " 1.00 EUR", "1.00\tEUR", "1.00\nEUR", "1.00 \tEUR", "1.00\t EUR", "1.00 EUR\n", "1.00\u00a0EUR", "1.00\u2009EUR", "1. 00 EUR", "1 .00 EUR", "- 1.00 EUR", "1.00- EUR", "1 000.00 EUR", "1.0 0 EUR", "7 JPY ", "7  JPY", "7JPY", " 7 JPY", "7 J PY", "1.00 EUR EUR", "1.00 EUR 1.00 EUR", "1.00 E UR",
		// digits
		"x EUR", "x JPY", "1.x0 EUR", "1.0x EUR", "x.00 EUR", "1x.00 EUR", "x1.00 EUR", "0x1 JPY", "0x.00 EUR", "1e2 JPY", "1E2.00 EUR", "1/2 JPY", "a JPY", "1a JPY", "\u0661.00 EUR", "1.\u0660\u0660 EUR", "1.0\uff10 EUR", "\uff11 JPY", "\u22121.00 EUR", "\xff JPY", "1\xff JPY", "1.0\x00 EUR", "1\x00.00 EUR", "Inf EUR", "NaN JPY", "/ JPY", ": JPY", "1/.00 EUR", "1:.00 EUR",
		// order and currency
		"EUR 1.00", "JPY 7", "1.00 ", "7 ", "1.00 -", "1.00 _EUR", "1.00 -EUR", "1.00 1EUR", "1.00 EU.R", "1.00 EU\u20ac", "1.00 \u20ac", "1.00 EUR.", "1.00 EUR,", "1.00 EUR\x00", "7 JPY\x00",
	} {
		checkRead(t, s, 0, "", api.ErrForm)
	}
}

func TestReadWithNoNames(t *testing.T) {
	for _, ccy := range noNames {
		for _, number := range []string{"0", "7", "-7", "0.00", "1.00", "-12.05", "0.007", "1.000", tens(1500), tens(30) + ".00"} {
			checkRead(t, number+" "+ccy, 0, "", api.ErrForm)
		}
	}
}

func TestReadWithNamesOfAllBytes(t *testing.T) {
	for i := range 256 {
		c := string([]byte{byte(i)})
		for _, ccy := range []string{c, c + "b", "a" + c, "a" + c + "b", c + strings.Repeat("x", 39), c + strings.Repeat("x", 40), strings.Repeat("x", 39) + c, strings.Repeat("x", 40) + c} {
			if _, e := money.Unit(ccy); e == api.OK {
				checkText(t, -1205, ccy, "-12.05 "+ccy)
			} else {
				checkRead(t, "-12.05 "+ccy, 0, "", api.ErrForm)
			}
		}
	}
}

// wanted returns what is to be read from a text: the parts before and behind the place of its point are taken by themselves.
func wanted(s string) (n int, ccy string, e api.Errno) {
	space := strings.IndexByte(s, ' ')
	if space < 0 {
		return 0, "", api.ErrForm
	}
	unit, e := money.Unit(s[space+1:])
	if e != api.OK {
		return 0, "", api.ErrForm
	}
	digits := strings.TrimPrefix(s[:space], "-")
	whole, last := digits, ""
	if unit > 0 {
		at := len(digits) - unit - 1
		if at < 0 || digits[at] != '.' {
			return 0, "", api.ErrForm
		}
		whole, last = digits[:at], digits[at+1:]
	}
	if whole == "" || whole != "0" && whole[0] == '0' || strings.Trim(whole+last, "0123456789") != "" {
		return 0, "", api.ErrForm
	}
	value, _ := new(big.Int).SetString(whole+last, 10)
	if s[0] == '-' {
		value.Neg(value)
	}
	switch {
	case s[0] == '-' && value.Sign() == 0:
		return 0, "", api.ErrForm
	case !isAmount(value):
		return 0, "", api.ErrBig
	}
	return int(value.Int64()), s[space+1:], api.OK
}

func checkWanted(t *testing.T, s string) {
	t.Helper()
	n, ccy, e := wanted(s)
	checkRead(t, s, n, ccy, e)
}

// TestReadTextsWithChanges changes, puts in, and takes out every byte of some texts.
func TestReadTextsWithChanges(t *testing.T) {
	for _, s := range []string{"-12.05 EUR", "0.00 EUR", "0.07 A-b_9", "100.00 EUR", "7 JPY", "0 JPY", "-40 KRW", "100 VND", "0.007 KWD", "-1000.100 BHD", "11258999068426.24 EUR", "1125899906842624 JPY", "-1125899906842.624 TND"} {
		for i := range len(s) + 1 {
			for c := range 256 {
				checkWanted(t, s[:i]+string([]byte{byte(c)})+s[i:])
				if i < len(s) {
					checkWanted(t, s[:i]+string([]byte{byte(c)})+s[i+1:])
				}
			}
			if i < len(s) {
				checkWanted(t, s[:i]+s[i+1:])
			}
			checkWanted(t, s[:i])
			checkWanted(t, s[i:])
		}
	}
}

func TestReadRandomTexts(t *testing.T) {
	r := rand.New(rand.NewSource(4))
	good := 0
	for range 400000 {
		b := make([]byte, 1+r.Intn(7))
		for i := range b {
			b[i] = "0012-. "[r.Intn(7)]
		}
		s := string(b) + []string{" EUR", " JPY", " KWD", "JPY", "EUR", " x"}[r.Intn(6)]
		checkWanted(t, s)
		if _, _, e := money.Read(s); e == api.OK {
			good++
		}
	}
	if good < 1000 {
		t.Errorf("only %d texts of amounts", good)
	}
}
