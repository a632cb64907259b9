package money_test

import (
	"math"
	"slices"
	"testing"

	"novation/api"
	"novation/money"
)

// P7.2

func TestNamedSplits(t *testing.T) {
	for i, k := range []struct {
		total         int
		weights, want []int
	}{
		{100, []int{1, 1, 1}, []int{34, 33, 33}},
		{-100, []int{1, 1, 1}, []int{-34, -33, -33}},
		{10, []int{3, 0, 4}, []int{4, 0, 6}},
		{-10, []int{3, 0, 4}, []int{-4, 0, -6}},
		{0, []int{1, 2, 3}, []int{0, 0, 0}},
		{1, []int{1, 2, 3}, []int{0, 0, 1}},
		{-1, []int{1, 2, 3}, []int{0, 0, -1}},
		{1, []int{3, 3, 2}, []int{1, 0, 0}},
		{2, []int{2, 3, 3}, []int{0, 1, 1}},
		{1, []int{0, 2, 2}, []int{0, 1, 0}},
		{5, []int{2, 2, 2, 2}, []int{2, 1, 1, 1}},
		{6, []int{2, 2, 2, 2}, []int{2, 2, 1, 1}},
		{7, []int{2, 2, 2, 2}, []int{2, 2, 2, 1}},
		{-7, []int{2, 2, 2, 2}, []int{-2, -2, -2, -1}},
		{9, []int{4, 1, 4, 1}, []int{4, 1, 3, 1}}, // remainders 6, 9, 6, 9
		{3, []int{1, 5, 1, 5}, []int{1, 1, 0, 1}}, // remainders 3, 3, 3, 3
		{17, []int{7}, []int{17}},
		{-17, []int{api.MaxWeight}, []int{-17}},
		{3, []int{0, 0, 4000, 0}, []int{0, 0, 3, 0}},
		{api.MaxMoney, []int{1}, []int{api.MaxMoney}},
		{-api.MaxMoney, []int{api.MaxWeight, api.MaxWeight}, []int{-api.MaxMoney / 2, -api.MaxMoney / 2}},
		{api.MaxMoney, []int{1, 1, 1}, []int{375299968947542, 375299968947541, 375299968947541}},
	} {
		if l, e := money.Split(k.total, k.weights); !slices.Equal(l, k.want) || e != api.OK {
			t.Errorf("%d: %v, %d; not %v", i, l, e, k.want)
		}
	}
}

func TestSplitsOfSomeTotals(t *testing.T) {
	for _, weights := range weightings() {
		for _, total := range totals() {
			l, e := money.Split(total, weights)
			if want := splitOf(total, weights); !slices.Equal(l, want) || e != api.OK {
				t.Errorf("Split(%d, %v) = %v, %d; not %v", total, weights, l, e, want)
			}
		}
	}
}

// TestAllSmallSplits has all totals and weights up to a bound, so that remainders are the same in all ways.
func TestAllSmallSplits(t *testing.T) {
	for n := range 6 * 6 * 6 * 6 {
		weights := []int{n % 6, n / 6 % 6, n / 36 % 6, n / 216}
		if n == 0 {
			continue
		}
		for total := -25; total <= 25; total++ {
			if l, e := money.Split(total, weights); !slices.Equal(l, splitOf(total, weights)) || e != api.OK {
				t.Errorf("Split(%d, %v) = %v, %d", total, weights, l, e)
			}
		}
	}
}

func checkNoSplit(t *testing.T, total int, weights []int) {
	t.Helper()
	if l, e := money.Split(total, weights); len(l) != 0 || e != api.ErrArg {
		t.Errorf("Split(%d, %v) = %v, %d", total, weights, l, e)
	}
}

func TestSplitsOfNoAmounts(t *testing.T) {
	for _, total := range noAmounts {
		for _, weights := range [][]int{{1}, {1, 1}, {0, api.MaxWeight}, nil, {0}, {-1}, all(101, 1)} {
			checkNoSplit(t, total, weights)
		}
	}
}

func TestSplitsByWeightsThatAreNotValid(t *testing.T) {
	bad := [][]int{
		nil, {}, {0}, {0, 0}, all(100, 0), all(101, 0), all(101, 1), all(101, api.MaxWeight), append(all(100, 0), 1), append(all(100, 1), 0), all(102, 1), all(1000, 1),
	}
	for _, no := range []int{-1, -2, -4000, api.MaxWeight + 1, api.MaxWeight + 2, 1 << 12, 1 << 31, 1<<32 + 1, -1 << 32, math.MaxInt, math.MinInt} {
		bad = append(bad, []int{no}, []int{no, 1}, []int{1, no}, []int{3, no, 4}, []int{0, no}, []int{no, no}, []int{-no, no, 5}, append(all(99, 1), no))
	}
	for _, weights := range bad {
		for _, total := range []int{0, 1, -1, 100, -100, api.MaxMoney, -api.MaxMoney, api.MaxMoney + 1} {
			checkNoSplit(t, total, weights)
		}
	}
}

func TestSplitsIntoManyParts(t *testing.T) {
	for _, n := range []int{1, 2, 99, 100} {
		want := all(n, 2)
		want[0] = 3
		if l, e := money.Split(2*n+1, all(n, api.MaxWeight)); !slices.Equal(l, want) || e != api.OK {
			t.Errorf("%d parts: %v, %d", n, l, e)
		}
	}
}

func checkSum(t *testing.T, l []int, want int, wantE api.Errno) {
	t.Helper()
	if n, e := money.Sum(l); n != want || e != wantE {
		t.Errorf("Sum of %d amounts, %.80v: %d, %d; not %d, %d", len(l), l[:min(len(l), 3)], n, e, want, wantE)
	}
}

func TestSums(t *testing.T) {
	const most = api.MaxMoney
	for _, k := range []struct {
		l    []int
		want int
		e    api.Errno
	}{
		{nil, 0, api.OK}, {[]int{}, 0, api.OK}, {[]int{0}, 0, api.OK}, {[]int{5}, 5, api.OK}, {[]int{-5}, -5, api.OK}, {[]int{1, 2, -4, 8}, 7, api.OK},
		{[]int{most}, most, api.OK}, {[]int{-most}, -most, api.OK}, {[]int{most, 0}, most, api.OK}, {[]int{most - 1, 1}, most, api.OK}, {[]int{1 - most, -1}, -most, api.OK},
		{[]int{most, 1}, 0, api.ErrBig}, {[]int{-most, -1}, 0, api.ErrBig}, {[]int{1, most}, 0, api.ErrBig}, {[]int{most, most}, 0, api.ErrBig}, {[]int{-most, -most}, 0, api.ErrBig}, {[]int{most / 2, most / 2, 1}, 0, api.ErrBig},
		// What counts is the sum of all, not a sum on the way.
		{[]int{most, 1, -1}, most, api.OK}, {[]int{most, most, -most, -3}, most - 3, api.OK}, {[]int{-most, -most, most}, -most, api.OK}, {[]int{most, most, most, -most, -most, -most}, 0, api.OK},
	} {
		checkSum(t, k.l, k.want, k.e)
	}
}

func TestSumsOfManyAmounts(t *testing.T) {
	const most = api.MaxMoney
	for n := 4998; n <= 5000; n++ {
		checkSum(t, all(n, 3), 3*n, api.OK)
		checkSum(t, all(n, -1<<37), -n<<37, api.OK)
		checkSum(t, all(n, most), 0, api.ErrBig)
		checkSum(t, all(n, -most), 0, api.ErrBig)
		checkSum(t, append(all(n-1, 0), most+1), 0, api.ErrArg)
		checkSum(t, append(all(n-1, most), -most-1), 0, api.ErrArg)
	}
	checkSum(t, append(all(2500, most), all(2500, -most)...), 0, api.OK)
	for _, n := range []int{5001, 5002, 6000, 100000} {
		checkSum(t, all(n, 0), 0, api.ErrMany)
		checkSum(t, all(n, 3), 0, api.ErrMany)
		checkSum(t, all(n, most), 0, api.ErrMany)
		checkSum(t, all(n, most+1), 0, api.ErrMany)
	}
}

func TestSumsOfNoAmounts(t *testing.T) {
	for _, no := range noAmounts {
		for _, l := range [][]int{{no}, {no, 1}, {1, no}, {no, -no}, {-5, no, 5}, {api.MaxMoney, no}, {api.MaxMoney, api.MaxMoney, no}, {no, no, no}} {
			checkSum(t, l, 0, api.ErrArg)
		}
	}
}

// P1

func TestArgumentsAreKept(t *testing.T) {
	weights := []int{7, 0, 3, 9, 1 << 40, -5}
	for _, total := range []int{0, 1, -1, 100, -12345, api.MaxMoney, api.MaxMoney + 1} {
		for n := range weights {
			before := slices.Clone(weights)
			money.Split(total, weights[:n])
			money.Sum(weights[:n])
			if !slices.Equal(weights, before) {
				t.Fatalf("%d weights of %v became %v", n, before, weights)
			}
		}
	}
}

func TestResultsAreNew(t *testing.T) {
	weights := []int{1, 1, 1}
	l, _ := money.Split(100, weights)
	for i := range l {
		l[i] = -9
	}
	if again, e := money.Split(100, weights); !slices.Equal(again, []int{34, 33, 33}) || !slices.Equal(weights, []int{1, 1, 1}) || e != api.OK {
		t.Errorf("%v, %v, %d", again, weights, e)
	}
}
