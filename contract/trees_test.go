package contract_test

import (
	"math/rand"
	"reflect"
	"testing"

	"novation/api"
	"novation/contract"
)

// P9.1 (Size and Depth) and P9.2

// trees are contracts, most of which are not valid, of which no two are identical.
func trees() []api.Contract {
	l := []api.Contract{
		{}, {Kind: 11}, {Kind: 255}, {From: "p"}, {To: "p"}, {Name: "p"}, {Date: 1}, {Date: -1}, {Dates: []int{0}}, {Dates: []int{1}}, {Dates: []int{1, 2}}, {Dates: []int{2, 1}}, {Dates: []int{1, 2, 3}}, {Dates: []int{1, 1}}, {Dates: make([]int, 5000)},
		{From: "p", To: "q"}, {From: "q", To: "p"}, {From: "pq"}, {From: "\xff", To: " ", Name: "\x00", Date: 1 << 40}, {Kind: 255, From: "\xff", To: " ", Name: "\x00", Date: 1 << 40, Expr: api.Expr{Kind: 200, Sub: []api.Expr{{}}}, Sub: []api.Contract{{}}},
		{Expr: con("0")}, {Expr: con("1")}, {Expr: now("a")}, {Expr: yes()}, {Expr: api.Expr{Rat: "1"}}, {Expr: api.Expr{Name: "a"}}, {Expr: api.Expr{Date: 1}}, {Expr: api.Expr{Sub: []api.Expr{{}}}}, {Expr: api.Expr{Sub: []api.Expr{{}, {}}}}, {Expr: api.Expr{Sub: []api.Expr{{Sub: []api.Expr{{}}}}}},
		zero(), of(1, zero()), of(1, zero(), zero()), of(3, zero()), of(3, zero(), zero(), zero()), of(3, of(3), of(4)), of(3, of(4), of(3)), of(0, of(0)), of(0, of(0), of(0)), of(0, of(0, of(0))), of(0, of(0, of(0)), of(0)), of(0, of(0), of(0, of(0))), of(0, of(0, of(0), of(0))),
		pay("p", "q", "EUR", con("0")), pay("q", "p", "EUR", con("0")), pay("p", "q", "USD", con("0")), pay("p", "q", "EUR", con("1")), pay("p", "q", "EUR", fix("a", 1)), pay("p", "q", "EUR", fix("a", 2)), pay("p", "q", "EUR", fix("b", 1)), pay("p", "q", "EUR", yes()),
		at(zero(), 59), at(zero(), 60), sized(9), sized(500), sized(501), sized(100001), pay("p", "q", "EUR", number(99)), pay("p", "q", "EUR", number(10001)), pay("p", "q", "EUR", deepNumber(59)), pay("p", "q", "EUR", deepNumber(60)),
	}
	for kind := range uint8(11) {
		r, c := exampleOf(kind)
		if kind == 0 || kind == api.ConZero {
			continue
		}
		l = append(l, c)
		for i := range r.below {
			_, c := exampleOf(kind)
			c.Sub[i] = both(zero(), pay("p", "q", "EUR", con("1")))
			l = append(l, c)
		}
	}
	return l
}

func checkMeasures(t *testing.T, c api.Contract, size, depth int) {
	t.Helper()
	if n := contract.Size(c); n != size {
		t.Errorf("Size(%s) = %d, not %d", short(c), n, size)
	}
	if n := contract.Depth(c); n != depth {
		t.Errorf("Depth(%s) = %d, not %d", short(c), n, depth)
	}
}

func TestSizesAndDepths(t *testing.T) {
	three := api.Contract{Expr: yes(), Sub: []api.Contract{zero(), pay("p", "q", "EUR", now("a"))}}
	for _, k := range []struct {
		c           api.Contract
		size, depth int
	}{
		{api.Contract{}, 1, 1}, {zero(), 1, 1}, {of(255), 1, 1}, {api.Contract{Kind: api.ConPay}, 1, 1}, {pay("p", "q", "EUR", con("1")), 2, 2}, {pay("p", "q", "EUR", yes()), 4, 3}, {both(zero(), zero()), 3, 2}, {of(3), 1, 1},
		{three, 7, 3}, {of(0, three), 8, 4}, {of(0, three, three), 15, 4}, {of(0, zero(), three), 9, 4}, {of(0, three, zero()), 9, 4},
		{api.Contract{Expr: deepTruth(9), Sub: []api.Contract{at(zero(), 3)}}, 1 + 10 + 4, 10}, {api.Contract{Expr: deepTruth(4), Sub: []api.Contract{at(zero(), 8)}}, 1 + 5 + 9, 10},
		{api.Contract{Expr: api.Expr{Sub: []api.Expr{}}}, 1, 1}, {api.Contract{Expr: api.Expr{Sub: []api.Expr{{}}}}, 3, 3}, {api.Contract{Expr: api.Expr{Sub: make([]api.Expr, 9)}}, 11, 3}, {api.Contract{Kind: api.ConZero, Expr: con("1")}, 2, 2}, {api.Contract{Expr: api.Expr{Kind: 99}}, 2, 2}, {api.Contract{Expr: api.Expr{Rat: "1"}}, 2, 2}, {api.Contract{Expr: api.Expr{Name: "a"}}, 2, 2}, {api.Contract{Expr: api.Expr{Date: -1}}, 2, 2},
		{api.Contract{From: "p", To: "q", Name: "n", Date: 5, Dates: make([]int, 5000)}, 1, 1},
		{api.Contract{Sub: make([]api.Contract, 100000)}, 100001, 2}, {api.Contract{Expr: api.Expr{Sub: make([]api.Expr, 100000)}}, 100002, 3}, {at(zero(), 60000), 60001, 60001}, {api.Contract{Expr: not(yes(), 60000)}, 60004, 60003}, {at(api.Contract{Expr: not(yes(), 30000)}, 30000), 60004, 60003},
	} {
		checkMeasures(t, k.c, k.size, k.depth)
	}
	for _, n := range []int{1, 2, 3, 4, 5, 6, 7, 8, 499, 500, 501, 12345, 100000} {
		if m := contract.Size(sized(n)); m != n {
			t.Errorf("%d instead of %d", m, n)
		}
	}
	for _, c := range trees() {
		checkMeasures(t, c, sizeOf(c), depthOf(c))
	}
	r := rand.New(rand.NewSource(1))
	for range 1000 {
		c := random(r, 9)
		checkMeasures(t, c, sizeOf(c), depthOf(c))
	}
}

func checkSame(t *testing.T, a, b api.Contract, want bool) {
	t.Helper()
	if contract.Same(a, b) != want || contract.Same(b, a) != want {
		t.Errorf("Same(%s, %s) is not %v", short(a), short(b), want)
	}
}

func TestSameTrees(t *testing.T) {
	l, again := trees(), trees()
	for i, a := range l {
		for j, b := range again {
			checkSame(t, a, b, i == j)
			checkSame(t, of(0, a), of(0, b), i == j)
			checkSame(t, of(3, a, zero()), of(3, b, zero()), i == j)
			checkSame(t, of(5, zero(), a), of(5, zero(), b), i == j)
		}
	}
	checkSame(t, at(zero(), 60000), at(zero(), 60000), true)
	checkSame(t, at(zero(), 60000), at(zero(), 59999), false)
	checkSame(t, at(zero(), 60000), at(of(0), 60000), false)
}

// TestOneFieldDiffers changes each field of each node in turn.
func TestOneFieldDiffers(t *testing.T) {
	changes := []func(*api.Contract){
		func(c *api.Contract) { c.Kind++ }, func(c *api.Contract) { c.From += "x" }, func(c *api.Contract) { c.To += "x" }, func(c *api.Contract) { c.Name += "x" }, func(c *api.Contract) { c.Date++ }, func(c *api.Contract) { c.Expr.Kind++ }, func(c *api.Contract) { c.Expr.Rat += "1" }, func(c *api.Contract) { c.Expr.Name += "x" }, func(c *api.Contract) { c.Expr.Date-- },
		func(c *api.Contract) { c.Expr.Sub = append(c.Expr.Sub, con("1")) }, func(c *api.Contract) { c.Dates = append(c.Dates, 0) }, func(c *api.Contract) { c.Sub = append(c.Sub, of(0)) },
	}
	samples(2, 300, func(r *rand.Rand, c api.Contract) {
		for _, change := range changes {
			other := copyOf(c)
			node := &other
			for len(node.Sub) > 0 && r.Intn(4) > 0 {
				node = &node.Sub[r.Intn(len(node.Sub))]
			}
			change(node)
			checkSame(t, c, other, false)
		}
		checkSame(t, c, copyOf(c), true)
	})
}

func TestNilAndEmptyListsAreTheSame(t *testing.T) {
	spare := []api.Contract{zero(), zero()}
	contracts := [][]api.Contract{nil, {}, spare[:0], make([]api.Contract, 0, 10)}
	for kind := range uint8(12) {
		for i := range 64 {
			a, b := api.Contract{Kind: kind, From: "p", Sub: contracts[i%4]}, api.Contract{Kind: kind, From: "p", Sub: contracts[i/4%4]}
			if i&16 != 0 {
				a.Dates, b.Expr.Sub = []int{}, []api.Expr{}
			}
			if i&32 != 0 {
				b.Dates, a.Expr.Sub = daysFrom(1, 3)[:0], []api.Expr{con("1")}[:0]
			}
			checkSame(t, a, b, true)
			checkSame(t, both(zero(), a), both(zero(), b), true)
			checkSame(t, contract.Twin(a), b, true)
			checkMeasures(t, a, 1, 1)
			checkMeasures(t, b, 1, 1)
			other := b
			other.Sub = spare[:1]
			checkSame(t, a, other, false)
			other = b
			other.Dates = []int{0}
			checkSame(t, a, other, false)
			other = b
			other.Expr.Sub = []api.Expr{{}}
			checkSame(t, a, other, false)
		}
	}
}

// same tells whether two contracts are identical, without the help of the package.
func same(a, b api.Contract) bool {
	if len(a.Sub) != len(b.Sub) || len(a.Dates) != len(b.Dates) || !sameExpr(a.Expr, b.Expr) {
		return false
	}
	for i := range a.Dates {
		if a.Dates[i] != b.Dates[i] {
			return false
		}
	}
	for i := range a.Sub {
		if !same(a.Sub[i], b.Sub[i]) {
			return false
		}
	}
	a.Sub, b.Sub, a.Dates, b.Dates, a.Expr, b.Expr = nil, nil, nil, nil, api.Expr{}, api.Expr{}
	return reflect.DeepEqual(a, b)
}

func sameExpr(a, b api.Expr) bool {
	if len(a.Sub) != len(b.Sub) {
		return false
	}
	for i := range a.Sub {
		if !sameExpr(a.Sub[i], b.Sub[i]) {
			return false
		}
	}
	a.Sub, b.Sub = nil, nil
	return reflect.DeepEqual(a, b)
}

// copyOf returns a copy whose lists have room for more behind their ends, which has something in it.
func copyOf(c api.Contract) api.Contract {
	c.Expr = copyOfExpr(c.Expr)
	c.Dates = append(append([]int{}, c.Dates...), -7, -7)[:len(c.Dates)]
	below := []api.Contract{}
	for _, part := range c.Sub {
		below = append(below, copyOf(part))
	}
	c.Sub = append(below, api.Contract{Name: "spare"})[:len(below)]
	return c
}

func copyOfExpr(x api.Expr) api.Expr {
	below := []api.Expr{}
	for _, part := range x.Sub {
		below = append(below, copyOfExpr(part))
	}
	x.Sub = append(below, api.Expr{Name: "spare"})[:len(below)]
	return x
}

// unchanged tells whether a result of copyOf is as it was made of c, also behind the ends of its lists.
func unchanged(copied, c api.Contract) bool {
	dates, below := copied.Dates[:len(copied.Dates)+2], copied.Sub[:len(copied.Sub)+1]
	if dates[len(c.Dates)] != -7 || dates[len(c.Dates)+1] != -7 || below[len(c.Sub)].Name != "spare" || !unchangedExpr(copied.Expr, c.Expr) {
		return false
	}
	for i, part := range c.Sub {
		if !unchanged(copied.Sub[i], part) {
			return false
		}
	}
	return same(copied, c)
}

func unchangedExpr(copied, x api.Expr) bool {
	if copied.Sub[:len(copied.Sub)+1][len(x.Sub)].Name != "spare" {
		return false
	}
	for i, part := range x.Sub {
		if !unchangedExpr(copied.Sub[i], part) {
			return false
		}
	}
	return true
}

// scribble changes all memory of a contract, also behind the ends of its lists.
func scribble(c api.Contract) {
	for _, part := range c.Sub {
		scribble(part)
	}
	for i := range c.Sub[:cap(c.Sub)] {
		c.Sub[:cap(c.Sub)][i] = api.Contract{Kind: 99, From: "changed", Date: -9, Dates: []int{-9}}
	}
	for i := range c.Dates[:cap(c.Dates)] {
		c.Dates[:cap(c.Dates)][i] = -9
	}
	scribbleExpr(c.Expr)
}

func scribbleExpr(x api.Expr) {
	for _, part := range x.Sub {
		scribbleExpr(part)
	}
	for i := range x.Sub[:cap(x.Sub)] {
		x.Sub[:cap(x.Sub)][i] = api.Expr{Kind: 99, Name: "changed", Date: -9}
	}
}

func TestTwins(t *testing.T) {
	for _, c := range append(trees(), at(zero(), 60000), api.Contract{Expr: not(yes(), 60000)}) {
		twin := contract.Twin(c)
		if !same(c, twin) {
			t.Errorf("Twin(%s) = %s", short(c), short(twin))
		}
		checkSame(t, c, twin, true)
	}
	samples(3, 300, func(r *rand.Rand, c api.Contract) {
		twin := contract.Twin(c)
		if !same(c, twin) {
			t.Errorf("Twin(%s) = %s", short(c), short(twin))
		}
		checkError(t, twin, api.OK)
	})
}

func TestTwinsShareNoMemory(t *testing.T) {
	for _, original := range trees() {
		c := copyOf(original)
		twin := contract.Twin(c)
		scribble(c)
		if !same(twin, original) {
			t.Errorf("%s changed with its twin's original: %s", short(original), short(twin))
		}
		c = copyOf(original)
		twin = contract.Twin(c)
		scribble(twin)
		_, _, _ = append(twin.Sub, zero()), append(twin.Dates, 1), append(twin.Expr.Sub, con("7"))
		if !unchanged(c, original) {
			t.Errorf("%s changed with its twin: %s", short(original), short(c))
		}
	}
	// Parts that share their memory have twins that do not.
	days, part := []int{1, 2}, both(zero(), pay("p", "q", "EUR", yes()))
	twin := contract.Twin(both(api.Contract{Dates: days, Expr: part.Sub[1].Expr, Sub: part.Sub}, api.Contract{Dates: days, Expr: part.Sub[1].Expr, Sub: part.Sub}))
	want := copyOf(twin.Sub[1])
	scribble(twin.Sub[0])
	if !same(twin.Sub[1], want) {
		t.Errorf("the parts of %s share memory", short(twin))
	}
}
