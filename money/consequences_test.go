package money_test

import (
	"math/big"
	"testing"

	"novation/api"
	"novation/money"
)

// P7.4

func TestPartsOfSplits(t *testing.T) {
	for _, weights := range weightings() {
		for _, total := range totals() {
			checkParts(t, total, weights)
		}
	}
}

func checkParts(t *testing.T, total int, weights []int) {
	t.Helper()
	l, e := money.Split(total, weights)
	if e != api.OK || len(l) != len(weights) {
		t.Fatalf("Split(%d, %v) = %v, %d", total, weights, l, e)
	}
	if n, e := money.Sum(l); n != total || e != api.OK {
		t.Errorf("Split(%d, %v) = %v, which sum to %d; %d", total, weights, l, n, e)
	}
	whole := 0
	for _, weight := range weights {
		whole += weight
	}
	for i, part := range l {
		share := big.NewRat(int64(weights[i]), int64(whole))
		share.Mul(share, big.NewRat(int64(total), 1))
		off := share.Sub(share, big.NewRat(int64(part), 1))
		if off.Abs(off).Cmp(big.NewRat(1, 1)) >= 0 || weights[i] == 0 && part != 0 || part != 0 && (part > 0) != (total > 0) {
			t.Errorf("Split(%d, %v): part %d is %d", total, weights, i, part)
		}
	}
	checkOrderOfParts(t, total, weights, l)
}

// checkOrderOfParts compares the sizes of parts, as those of a negative total are negative.
func checkOrderOfParts(t *testing.T, total int, weights, l []int) {
	t.Helper()
	size := func(i int) int { return max(l[i], -l[i]) }
	for i := range l {
		for j := range l {
			if weights[i] > weights[j] && size(i) < size(j) {
				t.Errorf("Split(%d, %v) = %v: parts %d and %d", total, weights, l, i, j)
			}
		}
	}
}

func TestUnitsThereAndBack(t *testing.T) {
	for _, c := range currencies() {
		for _, n := range append(amounts(), totals()...) {
			r, e := money.FromUnits(n, c.ccy)
			if e != api.OK {
				t.Fatalf("FromUnits(%d, %q): %d", n, c.ccy, e)
			}
			for mode := range uint8(len(modes)) {
				if m, e := money.ToUnits(r, c.ccy, mode); m != n || e != api.OK {
					t.Errorf("%d %s, there and back by %s: %d, %d", n, c.ccy, modes[mode], m, e)
				}
			}
		}
	}
}

func TestRepeatedCallsAgree(t *testing.T) {
	for _, c := range three {
		for _, n := range amounts() {
			s, e := money.Show(n, c.ccy)
			money.Show(-n/3, "x")
			money.Read("1.x EUR")
			money.Split(n, []int{1, 2})
			if again, f := money.Show(n, c.ccy); s != again || e != f {
				t.Errorf("Show(%d, %q): %q, %q", n, c.ccy, s, again)
			}
			if m, ccy, e := money.Read(s); m != n || ccy != c.ccy || e != api.OK {
				t.Errorf("Read(%q) = %d, %q, %d", s, m, ccy, e)
			}
		}
	}
}
