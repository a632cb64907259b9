package contract_test

import (
	"math/rand"
	"slices"
	"testing"

	"novation/api"
	"novation/contract"
)

// P9.4

// joined returns lists together, in order, each element once.
func joined(lists ...[]string) []string {
	l := slices.Concat(lists...)
	slices.Sort(l)
	return slices.Compact(l)
}

// ownFacts returns the parties, currencies and horizon of a node without its contracts.
func ownFacts(c api.Contract) (parties, currencies []string, horizon int) {
	for _, party := range []string{c.From, c.To} {
		if party != "" {
			parties = append(parties, party)
		}
	}
	if c.Kind == api.ConPay {
		currencies = []string{c.Name}
	}
	return parties, currencies, max(c.Date, slices.Max(append(c.Dates[:len(c.Dates):len(c.Dates)], 0)), horizonOfExpr(c.Expr))
}

// checkWhole checks a contract put together from a node and valid contracts.
func checkWhole(t *testing.T, c api.Contract) api.Errno {
	t.Helper()
	want := api.OK
	size, depth := 1, 0
	if !isNone(c.Expr) {
		size, depth = 1+sizeOfExpr(c.Expr), depthOfExpr(c.Expr)
	}
	parties, currencies, horizon := ownFacts(c)
	for _, part := range c.Sub {
		size, depth = size+contract.Size(part), max(depth, contract.Depth(part))
		l, _ := contract.Parties(part)
		m, _ := contract.Currencies(part)
		n, _ := contract.Horizon(part)
		parties, currencies, horizon = append(parties, l...), append(currencies, m...), max(horizon, n)
	}
	checkMeasures(t, c, size, depth+1)
	if size > api.MaxNodes || depth+1 > api.MaxDepth {
		want = api.ErrMany
	} else {
		checkFacts(t, c, joined(parties), joined(currencies), horizon)
	}
	checkError(t, c, want)
	return want
}

// TestContractsPutTogether has contracts of all kinds, of parts of all sizes.
func TestContractsPutTogether(t *testing.T) {
	var parts []api.Contract
	samples(6, 300, func(r *rand.Rand, c api.Contract) { parts = append(parts, c) })
	for _, n := range []int{100, 200, 248, 249, 250, 251, 300, 400, 450, 497, 498, 499, 500} {
		parts = append(parts, sized(n))
	}
	for n := 50; n <= 60; n++ {
		parts = append(parts, deep(n)...)
	}
	r := rand.New(rand.NewSource(7))
	seen := map[api.Errno]int{}
	for _, part := range parts {
		for kind := uint8(2); kind <= 10; kind++ {
			c := randomNode(r, kind)
			for range table[kind].below {
				c.Sub = append(c.Sub, parts[r.Intn(len(parts))])
			}
			if table[kind].below > 0 {
				c.Sub[r.Intn(len(c.Sub))] = part
			}
			seen[checkWhole(t, c)]++
		}
	}
	if seen[api.OK] < 1000 || seen[api.ErrMany] < 300 {
		t.Errorf("too few of a kind: %v", seen)
	}
}

// TestPartsAreValid takes valid contracts apart.
func TestPartsAreValid(t *testing.T) {
	var check func(c api.Contract)
	check = func(c api.Contract) {
		checkError(t, c, api.OK)
		for _, part := range c.Sub {
			check(part)
		}
	}
	check(sized(500))
	for _, c := range deep(60) {
		check(c)
	}
	samples(8, 100, func(r *rand.Rand, c api.Contract) { check(c) })
}

// TestReplacedParts has a contract in the place of another one, far down.
func TestReplacedParts(t *testing.T) {
	samples(9, 300, func(r *rand.Rand, c api.Contract) {
		for _, other := range []api.Contract{zero(), random(r, 3), sized(400), of(api.ConBoth, zero()), {}} {
			whole := copyOf(c)
			node := &whole
			for len(node.Sub) > 0 && r.Intn(4) > 0 {
				node = &node.Sub[r.Intn(len(node.Sub))]
			}
			*node = copyOf(other)
			want := api.OK
			if sizeOf(whole) > api.MaxNodes || depthOf(whole) > api.MaxDepth {
				want = api.ErrMany
			} else if other.Kind == 0 || other.Kind == api.ConBoth && len(other.Sub) == 1 {
				want = api.ErrBad
			}
			checkError(t, whole, want)
		}
	})
}

// P1 and the rules

// askAll calls all functions.
func askAll(c, other api.Contract) {
	contract.Check(c)
	contract.Size(c)
	contract.Depth(c)
	contract.Same(c, other)
	contract.Same(other, c)
	contract.Twin(c)
	contract.Parties(c)
	contract.Currencies(c)
	contract.Horizon(c)
}

func TestArgumentsAreNotChanged(t *testing.T) {
	l := trees()
	samples(10, 300, func(r *rand.Rand, c api.Contract) { l = append(l, c) })
	for _, c := range l {
		before := copyOf(c)
		askAll(before, c)
		if !unchanged(before, c) {
			t.Errorf("%s became %s", short(c), short(before))
		}
	}
}

// TestResultsShareNoMemory changes results and asks again.
func TestResultsShareNoMemory(t *testing.T) {
	samples(11, 300, func(r *rand.Rand, c api.Contract) {
		before := copyOf(c)
		for _, ask := range []func(api.Contract) ([]string, api.Errno){contract.Parties, contract.Currencies} {
			first, _ := ask(before)
			second, _ := ask(before)
			want := slices.Clone(second)
			clear(first[:cap(first)])
			if third, _ := ask(before); !slices.Equal(second, want) || !slices.Equal(third, want) || !unchanged(before, c) {
				t.Errorf("%s: %q, then %q and %q", short(c), want, second, third)
			}
		}
	})
}

// TestRepeatedCallsAgree has calls with other arguments in between.
func TestRepeatedCallsAgree(t *testing.T) {
	type answers struct {
		size, depth, horizon int
		parties, currencies  string
		e                    api.Errno
	}
	ask := func(c api.Contract) answers {
		parties, _ := contract.Parties(c)
		currencies, _ := contract.Currencies(c)
		horizon, _ := contract.Horizon(c)
		var a, b string
		for _, s := range parties {
			a += s + " "
		}
		for _, s := range currencies {
			b += s + " "
		}
		return answers{contract.Size(c), contract.Depth(c), horizon, a, b, contract.Check(c)}
	}
	l := trees()
	samples(12, 300, func(r *rand.Rand, c api.Contract) { l = append(l, c) })
	var first []answers
	for _, c := range l {
		first = append(first, ask(c))
	}
	for i, c := range slices.Backward(l) {
		if again := ask(c); again != first[i] {
			t.Errorf("%s: first %v, then %v", short(c), first[i], again)
		}
	}
}
