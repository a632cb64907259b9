package rational_test

import (
	"math/big"
	"math/rand"
	"testing"

	"novation/api"
	"novation/rational"
)

// P2.6

// Equal rationals have equal strings, so that the strings are compared.
func TestField(t *testing.T) {
	r := rand.New(rand.NewSource(4))
	add := func(a, b api.Rat) api.Rat { return do(t, rational.Add, a, b) }
	sub := func(a, b api.Rat) api.Rat { return do(t, rational.Sub, a, b) }
	mul := func(a, b api.Rat) api.Rat { return do(t, rational.Mul, a, b) }
	div := func(a, b api.Rat) api.Rat { return do(t, rational.Div, a, b) }
	for range 1000 {
		a, b, c := random(r, 60), random(r, 60), random(r, 60)
		laws := map[string]bool{
			"a + b = b + a":               add(a, b) == add(b, a),
			"(a + b) + c = a + (b + c)":   add(add(a, b), c) == add(a, add(b, c)),
			"a + 0 = a":                   add(a, "0") == a,
			"a - a = 0":                   sub(a, a) == "0",
			"(a - b) + b = a":             add(sub(a, b), b) == a,
			"a - b = a + -1 * b":          sub(a, b) == add(a, mul("-1", b)),
			"a * b = b * a":               mul(a, b) == mul(b, a),
			"(a * b) * c = a * (b * c)":   mul(mul(a, b), c) == mul(a, mul(b, c)),
			"a * 1 = a":                   mul(a, "1") == a,
			"a * 0 = 0":                   mul(a, "0") == "0",
			"a * (b + c) = a * b + a * c": mul(a, add(b, c)) == add(mul(a, b), mul(a, c)),
		}
		if b != "0" {
			laws["b / b = 1"] = div(b, b) == "1"
			laws["(a / b) * b = a"] = mul(div(a, b), b) == a
			laws["a / b = a * (1 / b)"] = div(a, b) == mul(a, div("1", b))
		}
		for law, holds := range laws {
			if !holds {
				t.Errorf("%s does not hold for %q, %q and %q", law, a, b, c)
			}
		}
	}
}

func TestOrderOfTheField(t *testing.T) {
	r := rand.New(rand.NewSource(5))
	compare := func(a, b api.Rat) int {
		n, e := rational.Compare(a, b)
		if e != api.OK {
			t.Fatal(a, b, e)
		}
		return n
	}
	for range 1000 {
		most := 1 + r.Intn(60)
		a, b, c := random(r, most), random(r, most), random(r, most)
		order := compare(a, b)
		if (order == 0) != (a == b) || compare(b, a) != -order || compare(a, a) != 0 {
			t.Errorf("order of %q and %q", a, b)
		}
		if order <= 0 && compare(b, c) <= 0 && compare(a, c) > 0 {
			t.Errorf("order of %q, %q and %q", a, b, c)
		}
		if compare(do(t, rational.Add, a, c), do(t, rational.Add, b, c)) != order {
			t.Errorf("order of %q and %q with %q added", a, b, c)
		}
		if compare(do(t, rational.Mul, a, c), do(t, rational.Mul, b, c)) != order*compare(c, "0") {
			t.Errorf("order of %q and %q multiplied by %q", a, b, c)
		}
	}
}

func TestEqualRationalsHaveEqualStrings(t *testing.T) {
	for n := -30; n <= 30; n++ {
		for d := -30; d <= 30; d++ {
			if d == 0 {
				continue
			}
			want := api.Rat(big.NewRat(int64(n), int64(d)).RatString())
			made, e := rational.Ratio(n, d)
			divided, f := rational.Div(rational.Of(n), rational.Of(d))
			if made != want || divided != want || e != api.OK || f != api.OK {
				t.Errorf("%d / %d: %q, %d and %q, %d", n, d, made, e, divided, f)
			}
		}
	}
}

func TestRoundingChangesLittle(t *testing.T) {
	r := rand.New(rand.NewSource(6))
	for range 1000 {
		a := random(r, 1+r.Intn(40))
		for mode := range api.RoundFloor + 1 {
			n, e := rational.Round(a, mode)
			if e != api.OK {
				t.Fatal(a, mode, e)
			}
			change := do(t, rational.Sub, a, api.Rat(n))
			most, bound := api.Rat("1"), 0
			if mode == api.RoundHalf || mode == api.RoundEven {
				most, bound = "1/2", 1
			}
			for _, c := range []api.Rat{change, do(t, rational.Mul, "-1", change)} {
				if order, e := rational.Compare(c, most); order >= bound || e != api.OK {
					t.Errorf("Round(%q, %d) = %q", a, mode, n)
				}
			}
		}
	}
}
