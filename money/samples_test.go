package money_test

import (
	"math"
	"math/big"
	"math/rand"
	"strings"

	"novation/api"
)

// A currency is the name of one, with its unit and the number of units that make 1 of it.
type currency struct {
	ccy       string
	unit, one int
}

// listed are the currencies that the document lists, and usual are others, most of them almost listed ones.
var (
	listed = []currency{{"JPY", 0, 1}, {"KRW", 0, 1}, {"VND", 0, 1}, {"BHD", 3, 1000}, {"KWD", 3, 1000}, {"TND", 3, 1000}}
	usual  = []string{
		"EUR", "USD", "CHF", "GBP", "a", "Z", "a-b", "A_b", "x9", "a--", "b__", "jpy", "Jpy", "jPY", "JPy", "JP", "JPYX", "JPY-", "JPY_", "JPY0", "XJPY", "PJY", "J-P-Y",
		"krw", "KR", "KRWW", "vnd", "VN", "VNDD", "VDN", "bhd", "BH", "BHDB", "kwd", "KW", "KWDD", "KDW", "tnd", "TN", "TNDT", "TDN", "JOD", "OMR", "LYD", "IQD", "ISK", "CLP",
		strings.Repeat("a", api.MaxName), "Z" + strings.Repeat("-", api.MaxName-1), "JPY" + strings.Repeat("Y", api.MaxName-3),
	}
)

// currencies are some of all units.
func currencies() []currency {
	l := append([]currency{}, listed...)
	for _, ccy := range usual {
		l = append(l, currency{ccy, 2, 100})
	}
	return l
}

// three are currencies of the three units.
var three = []currency{{"JPY", 0, 1}, {"EUR", 2, 100}, {"KWD", 3, 1000}}

// noNames are texts that are no names.
var noNames = []string{
	"", "-", "_", "0", "9", "1EUR", "-EUR", "_EUR", " ", " EUR", "EUR ", "EU R", "EUR\n", "\tEUR", "EUR\x00", "\x00", "EU.R", "E,R", "E/R", "E+R", "E:R", "E@R", "E[R", "E`R", "E{R", "$", "\u20ac", "\u00c4UR", "EU\u00df", "E\xffR", "\xff",
	"\uff25\uff35\uff32", "EUR\u200b", "\u0410", "E\u0301", strings.Repeat("a", api.MaxName+1), strings.Repeat("Z", 1000), "JPY" + strings.Repeat(" ", 38), strings.Repeat("a", api.MaxName) + " ",
}

// amounts are some of all sizes, up to both ends of their range.
func amounts() []int {
	l := []int{0}
	for _, n := range []int{1, 2, 5, 7, 9, 10, 11, 49, 50, 51, 99, 100, 101, 149, 150, 999, 1000, 1001, 1205, 9999, 10000, 99999, 100000, 123456789, 1<<31 - 1, 1 << 31, 1 << 32, 1<<49 + 1, 999999999999999, 1000000000000000, api.MaxMoney - 1, api.MaxMoney} {
		l = append(l, n, -n)
	}
	return l
}

// noAmounts are numbers beyond the range of amounts.
var noAmounts = []int{
	api.MaxMoney + 1, -api.MaxMoney - 1, api.MaxMoney + 2, 2 * api.MaxMoney, -2 * api.MaxMoney, 1 << 60, 1 << 62, -1 << 62, math.MaxInt - 1, math.MaxInt, math.MinInt + 1, math.MinInt,
}

func isAmount(n *big.Int) bool {
	return n.CmpAbs(big.NewInt(api.MaxMoney)) <= 0
}

// modes are the names of the modes.
var modes = [...]string{api.RoundDown: "Down", api.RoundUp: "Up", api.RoundHalf: "Half", api.RoundEven: "Even", api.RoundFloor: "Floor"}

// rounded rounds x as a mode says, by the definitions of layer 2.
func rounded(x *big.Rat, mode uint8) *big.Int {
	floor := new(big.Int).Div(x.Num(), x.Denom()) // Div rounds down for positive divisors.
	above := new(big.Int).Add(floor, big.NewInt(1))
	if x.IsInt() {
		return floor
	}
	inner, outer := floor, above
	if x.Sign() < 0 {
		inner, outer = above, floor
	}
	toFloor := new(big.Rat).Sub(x, new(big.Rat).SetInt(floor))
	side := toFloor.Cmp(big.NewRat(1, 2))
	switch {
	case mode == api.RoundDown:
		return inner
	case mode == api.RoundUp:
		return outer
	case mode == api.RoundFloor || side < 0:
		return floor
	case side > 0:
		return above
	case mode == api.RoundHalf:
		return outer
	case floor.Bit(0) == 0:
		return floor
	}
	return above
}

// tens returns 10 to the power of n, which has n + 1 digits.
func tens(n int) string {
	return "1" + strings.Repeat("0", n)
}

// tensAnd1 returns one more than that.
func tensAnd1(n int) string {
	return "1" + strings.Repeat("0", n-1) + "1"
}

// noRats are texts that are no canonical rationals, among them ones that are only too long.
func noRats() []api.Rat {
	return []api.Rat{
		"", "-", "/", "1/", "/2", "-0", "00", "01", "+1", "1.0", "1.5", ".5", "1,5", "1e2", "0x10", " 1", "1 ", "1/1", "1/0", "0/2", "2/4", "1/-2", "1/02", "1/2/3", "1//2", "a", "1 EUR", "\u0661", "NaN",
		api.Rat(tens(api.MaxDigits)), api.Rat("-" + tens(api.MaxDigits)), api.Rat("1/" + tens(api.MaxDigits)), api.Rat(tens(api.MaxDigits) + "/3"), api.Rat(strings.Repeat("7", 5000)),
	}
}

// rats are rationals, many of them in the middle between smallest units and beside it.
func rats() []api.Rat {
	var l []api.Rat
	for n := int64(-60); n <= 60; n++ {
		for _, d := range []int64{1, 2, 3, 4, 7, 8, 10, 20, 40, 99, 100, 200, 201, 400, 1000, 2000, 2001, 4000, 1 << 40} {
			l = append(l, api.Rat(big.NewRat(n, d).RatString()))
		}
	}
	r := rand.New(rand.NewSource(1))
	for range 1500 {
		x := big.NewRat(r.Int63n(1<<60)-1<<59, 1+r.Int63n(1<<uint(r.Intn(40))))
		l = append(l, api.Rat(x.RatString()))
	}
	return l
}

// splitOf splits a total as the definition says: units that are left go, one by one, to the part with the greatest remainder that has not had one.
func splitOf(total int, weights []int) []int {
	sign, whole := big.NewInt(1), new(big.Int)
	if total < 0 {
		sign.SetInt64(-1)
	}
	for _, weight := range weights {
		whole.Add(whole, big.NewInt(int64(weight)))
	}
	size := new(big.Int).Mul(sign, big.NewInt(int64(total)))
	parts, remainders := make([]*big.Int, len(weights)), make([]*big.Int, len(weights))
	left := new(big.Int).Set(size)
	for i, weight := range weights {
		product := new(big.Int).Mul(size, big.NewInt(int64(weight)))
		parts[i], remainders[i] = new(big.Int).DivMod(product, whole, new(big.Int))
		left.Sub(left, parts[i])
	}
	for ; left.Sign() > 0; left.Sub(left, big.NewInt(1)) {
		best := 0
		for i := range remainders {
			if remainders[i].Cmp(remainders[best]) > 0 {
				best = i
			}
		}
		parts[best].Add(parts[best], big.NewInt(1))
		remainders[best].SetInt64(-1)
	}
	l := make([]int, len(parts))
	for i := range parts {
		l[i] = int(parts[i].Mul(parts[i], sign).Int64())
	}
	return l
}

// weightings are weights that are valid.
func weightings() [][]int {
	l := [][]int{
		{1}, {api.MaxWeight}, {1, 1}, {1, 2}, {2, 1}, {0, 1}, {1, 0}, {3, 0, 4}, {1, 1, 1}, {1, 2, 4}, {3, 3, 3, 3}, {4, 3, 2, 1}, {0, 0, 7, 0}, {1, api.MaxWeight}, {api.MaxWeight, 1}, {0, api.MaxWeight, api.MaxWeight},
		{5, 5, 1, 1, 5, 1}, {1, 3, 1, 3, 1, 3, 0}, {3999, 4000, 3998}, {2, 2, 2, 1, 1, 1}, {1999, 2000, 2001, 1}, all(100, 1), all(100, api.MaxWeight), all(99, 7), all(97, 3999), append(all(99, 0), 1), append(all(99, api.MaxWeight), 1), append([]int{1}, all(99, 4000)...),
	}
	rising := make([]int, api.MaxParts)
	for i := range rising {
		rising[i] = 40 * i
	}
	l = append(l, rising)
	r := rand.New(rand.NewSource(2))
	for range 200 {
		weights := make([]int, 1+r.Intn(api.MaxParts))
		most := []int{1, 2, 5, 100, api.MaxWeight}[r.Intn(5)]
		for i := range weights {
			weights[i] = r.Intn(most + 1)
		}
		weights[r.Intn(len(weights))] = most
		l = append(l, weights)
	}
	return l
}

// all returns n numbers that are the same.
func all(n, same int) []int {
	l := make([]int, n)
	for i := range l {
		l[i] = same
	}
	return l
}

// totals are amounts around which weights divide them, or do not.
func totals() []int {
	l := amounts()
	for n := -130; n <= 130; n++ {
		l = append(l, n)
	}
	r := rand.New(rand.NewSource(3))
	for range 40 {
		l = append(l, r.Intn(2*api.MaxMoney+1)-api.MaxMoney)
	}
	return l
}
