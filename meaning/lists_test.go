package meaning_test

import (
	"math/big"
	"math/rand"
	"slices"
	"testing"

	"novation/api"
	"novation/meaning"
)

// P10.2

// days returns n flows on the days from 0 on, each on k of them.
func series(n, k int) []api.Flow {
	l := make([]api.Flow, n)
	for i := range l {
		l[i] = flow(i/k, "1/2")
	}
	return l
}

// checkList checks that CheckFlows and Net have the same error for a list, or none.
func checkList(t *testing.T, l []api.Flow, want api.Errno) {
	t.Helper()
	if e := meaning.CheckFlows(l); e != want {
		t.Errorf("CheckFlows(%s) = %d, not %d", short(l), e, want)
	}
	for _, names := range [][2]string{{"Zed", "EUR"}, {"", ""}} {
		net, e := meaning.Net(l, names[0], names[1])
		switch {
		case want != api.OK && (e != want || net != ""):
			t.Errorf("Net(%s, %q) = %s, %d, not %d", short(l), names, net, e, want)
		case want == api.OK && names[0] == "" && (e != api.ErrArg || net != ""):
			t.Errorf("Net(%s, %q) = %s, %d", short(l), names, net, e)
		case want == api.OK && names[0] != "" && (e != api.OK || net != "0"):
			t.Errorf("Net(%s, %q) = %s, %d", short(l), names, net, e)
		}
	}
}

// checkFlow checks a flow alone, and as the first, the last and a middle one of lists.
func checkFlow(t *testing.T, f api.Flow, want api.Errno) {
	t.Helper()
	checkList(t, []api.Flow{f}, want)
	before, after := flow(0, "1"), flow(api.MaxDate, "1")
	checkList(t, []api.Flow{f, after}, want)
	checkList(t, []api.Flow{before, f}, want)
	checkList(t, []api.Flow{before, before, f, after}, want)
}

func TestLengths(t *testing.T) {
	checkList(t, nil, api.OK)
	checkList(t, []api.Flow{}, api.OK)
	checkList(t, series(3, 1)[:0], api.OK)
	for _, k := range []int{1, 3, 10000} {
		checkList(t, series(1, k), api.OK)
		checkList(t, series(4999, k), api.OK)
		checkList(t, series(5000, k), api.OK)
		checkList(t, series(5001, k), api.ErrMany)
		checkList(t, series(5002, k), api.ErrMany)
		checkList(t, series(9000, k), api.ErrMany)
	}
	bad := series(5001, 1)
	bad[0].Amount = "0"
	checkList(t, bad, api.ErrMany)
	checkList(t, bad[:5000], api.ErrBad)
	checkList(t, bad[1:], api.OK)
	bad[5000].Ccy = ""
	checkList(t, bad[1:], api.ErrBad)
	checkList(t, make([]api.Flow, 5000), api.ErrBad)
	checkList(t, make([]api.Flow, 5001), api.ErrMany)
}

func TestOrderOfLists(t *testing.T) {
	for days, want := range map[[4]int]api.Errno{
		{1, 2, 3, 4}: api.OK, {0, 0, 0, 0}: api.OK, {api.MaxDate, api.MaxDate, api.MaxDate, api.MaxDate}: api.OK, {0, 0, 5, 5}: api.OK, {0, 7, 7, api.MaxDate}: api.OK,
		{2, 1, 3, 4}: api.ErrBad, {1, 3, 2, 4}: api.ErrBad, {1, 2, 4, 3}: api.ErrBad, {4, 3, 2, 1}: api.ErrBad, {1, 1, 1, 0}: api.ErrBad, {1, 0, 0, 0}: api.ErrBad, {1, 5, 1, 5}: api.ErrBad, {api.MaxDate, 0, 1, 2}: api.ErrBad,
		{-1, 0, 1, 2}: api.ErrBad, {0, 1, 2, api.MaxDate + 1}: api.ErrBad,
	} {
		var l []api.Flow
		for _, day := range days {
			l = append(l, flow(day, "3"))
		}
		checkList(t, l, want)
	}
	last := series(5000, 1)
	last[4999].Date = 4997
	checkList(t, last, api.ErrBad)
}

func TestFieldsOfFlows(t *testing.T) {
	for _, day := range someDays {
		checkFlow(t, flow(day, "1"), api.OK)
	}
	for _, day := range noDays {
		checkFlow(t, flow(day, "1"), api.ErrBad)
	}
	for _, a := range amounts {
		checkFlow(t, flow(1, a), api.OK)
	}
	for _, a := range noAmounts {
		checkFlow(t, flow(1, a), api.ErrBad)
	}
	for i, name := range append(names[:len(names):len(names)], noNames...) {
		want := api.ErrBad
		if i < len(names) {
			want = api.OK
		}
		checkFlow(t, api.Flow{Date: 1, From: name, To: "q", Ccy: "USD", Amount: "1"}, want)
		checkFlow(t, api.Flow{Date: 1, From: "p", To: name, Ccy: "USD", Amount: "1"}, want)
		checkFlow(t, api.Flow{Date: 1, From: "p", To: "q", Ccy: name, Amount: "1"}, want)
		checkFlow(t, api.Flow{Date: 1, From: name, To: name, Ccy: "USD", Amount: "1"}, api.ErrBad)
	}
	checkFlow(t, api.Flow{Date: 1, From: "p", To: "P", Ccy: "p", Amount: "1"}, api.OK)
	checkFlow(t, api.Flow{}, api.ErrBad)
}

// some are flows between three parties in two currencies.
func some() []api.Flow {
	return []api.Flow{
		{Date: 1, From: "Ann", To: "Bob", Ccy: "USD", Amount: "5"}, {Date: 1, From: "Bob", To: "Ann", Ccy: "USD", Amount: "1/2"}, {Date: 2, From: "Ann", To: "Cid", Ccy: "USD", Amount: "1/3"},
		{Date: 2, From: "Ann", To: "Bob", Ccy: "EUR", Amount: "7"}, {Date: 9, From: "Cid", To: "Ann", Ccy: "EUR", Amount: "7"}, {Date: 9, From: "Bob", To: "Cid", Ccy: "USD", Amount: "11"},
	}
}

func TestNet(t *testing.T) {
	for k, want := range map[[2]string]api.Rat{
		{"Ann", "USD"}: "-29/6", {"Bob", "USD"}: "-13/2", {"Cid", "USD"}: "34/3", {"Ann", "EUR"}: "0", {"Bob", "EUR"}: "7", {"Cid", "EUR"}: "-7",
		{"Dan", "USD"}: "0", {"Ann", "GBP"}: "0", {"USD", "Ann"}: "0", {"ann", "USD"}: "0", {"Ann", "Usd"}: "0", {"An", "USD"}: "0",
	} {
		if net, e := meaning.Net(some(), k[0], k[1]); e != api.OK || net != want {
			t.Errorf("Net(%q) = %s, %d, not %s", k, net, e, want)
		}
		if net, e := meaning.Net(nil, k[0], k[1]); e != api.OK || net != "0" {
			t.Errorf("Net(nil, %q) = %s, %d", k, net, e)
		}
	}
	if net, e := meaning.Net(series(5000, 7), "Bob", "USD"); e != api.OK || net != "2500" {
		t.Error(net, e)
	}
	if net, e := meaning.Net(series(5000, 7), "Ann", "USD"); e != api.OK || net != "-2500" {
		t.Error(net, e)
	}
}

func TestNamesOfNets(t *testing.T) {
	for _, l := range [][]api.Flow{nil, some(), {flow(1, tens(999)), flow(2, tens(999))}} {
		for _, no := range noNames {
			for _, k := range [][2]string{{no, "USD"}, {"Ann", no}, {no, no}} {
				if net, e := meaning.Net(l, k[0], k[1]); e != api.ErrArg || net != "" {
					t.Errorf("Net(%s, %q) = %s, %d", short(l), k, net, e)
				}
			}
		}
		for _, name := range names[2:] {
			for _, k := range [][2]string{{name, "USD"}, {"Ann", name}, {name, name}} {
				if net, e := meaning.Net(l, k[0], k[1]); e != api.OK || net != "0" {
					t.Errorf("Net(%s, %q) = %s, %d", short(l), k, net, e)
				}
			}
		}
	}
}

// TestLongNets has sums that are too long in the middle, where the order matters, and for one party or currency only.
func TestLongNets(t *testing.T) {
	nines := flow(3, tens(999))
	nines.Amount = amounts[8]
	other := nines
	other.Ccy = "EUR"
	for _, k := range []struct {
		l    []api.Flow
		want api.Rat // of Bob in USD
		e    api.Errno
	}{
		{[]api.Flow{nines}, nines.Amount, api.OK},
		{[]api.Flow{nines, flow(3, "1")}, "", api.ErrBig},
		{[]api.Flow{flow(3, "1"), nines}, "", api.ErrBig},
		{[]api.Flow{nines, back(3, "1"), flow(4, "1")}, nines.Amount, api.OK},
		{[]api.Flow{nines, flow(3, "1"), back(4, "1")}, "", api.ErrBig},
		{[]api.Flow{back(3, "1"), nines, flow(4, "1")}, nines.Amount, api.OK},
		{[]api.Flow{back(3, nines.Amount), nines}, "0", api.OK},
		{[]api.Flow{back(3, nines.Amount), nines, nines}, nines.Amount, api.OK},
		{[]api.Flow{nines, nines, back(3, nines.Amount)}, "", api.ErrBig},
		{[]api.Flow{nines, other, back(3, nines.Amount)}, "0", api.OK},
		{[]api.Flow{back(0, nines.Amount), back(0, "1"), nines}, "", api.ErrBig},
		{[]api.Flow{flow(0, "1/"+tens(500)), flow(0, "1/"+tens(499)+"3"), flow(0, "1")}, "", api.ErrBig},
	} {
		if net, e := meaning.Net(k.l, "Bob", "USD"); e != k.e || net != k.want {
			t.Errorf("Net(%s, Bob) = %.30s, %d, not %.30s, %d", short(k.l), net, e, k.want, k.e)
		}
		if net, e := meaning.Net(k.l, "Ann", "USD"); e != k.e || negated(net) != k.want {
			t.Errorf("Net(%s, Ann) = %.30s, %d, not %.30s, %d", short(k.l), net, e, k.want, k.e)
		}
		if net, e := meaning.Net(k.l, "Cid", "USD"); e != api.OK || net != "0" {
			t.Errorf("Net(%s, Cid) = %.30s, %d", short(k.l), net, e)
		}
		if net, e := meaning.Net(k.l, "Bob", "GBP"); e != api.OK || net != "0" {
			t.Errorf("Net(%s, Bob, GBP) = %.30s, %d", short(k.l), net, e)
		}
	}
}

// negated returns the opposite of a rational, and a blank for a blank.
func negated(a api.Rat) api.Rat {
	switch {
	case a == "" || a == "0":
		return a
	case a[0] == '-':
		return a[1:]
	}
	return "-" + a
}

// netOf returns a net by the package math/big.
func netOf(l []api.Flow, party, ccy string) string {
	net := new(big.Rat)
	for _, f := range l {
		a, _ := new(big.Rat).SetString(string(f.Amount))
		if f.Ccy == ccy && f.To == party {
			net.Add(net, a)
		}
		if f.Ccy == ccy && f.From == party {
			net.Sub(net, a)
		}
	}
	return net.RatString()
}

// TestSumsOfNets compares nets with those of math/big; those of all parties in a currency add up to 0.
func TestSumsOfNets(t *testing.T) {
	r := rand.New(rand.NewSource(3))
	for range 500 {
		var l []api.Flow
		for day := r.Intn(9); len(l) < r.Intn(60); day += r.Intn(3) {
			i := r.Intn(3)
			l = append(l, api.Flow{Date: day, From: parties[i], To: parties[(i+1+r.Intn(2))%3], Ccy: oneOf(r, currencies), Amount: amounts[r.Intn(6)]})
		}
		checkList(t, slices.DeleteFunc(slices.Clone(l), func(f api.Flow) bool { return f.Ccy == "EUR" }), api.OK)
		for _, ccy := range currencies {
			sum := new(big.Rat)
			for _, party := range parties {
				net, e := meaning.Net(l, party, ccy)
				if e != api.OK || string(net) != netOf(l, party, ccy) {
					t.Errorf("Net(%s, %s, %s) = %s, %d, not %s", short(l), party, ccy, net, e, netOf(l, party, ccy))
				}
				a, _ := new(big.Rat).SetString(string(net))
				sum.Add(sum, a)
			}
			if sum.Sign() != 0 {
				t.Errorf("%s: the nets in %s add up to %s", short(l), ccy, sum)
			}
		}
	}
}
