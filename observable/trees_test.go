package observable_test

import (
	"math/rand"
	"reflect"
	"testing"

	"novation/api"
	"novation/observable"
)

// P8.1

// trees are expressions, most of which are not valid, of which no two are identical.
func trees() []api.Expr {
	l := []api.Expr{
		{}, con(""), con("0"), con("1"), con("x"), con("00"), fix("a", 0), fix("a", 5), fix("a", -5), fix("b", 5), fix("", 5), now("a"), now(""), {Kind: 1, Name: "1"}, {Kind: 1, Date: 1}, {Rat: "1"}, {Name: "1"}, {Date: 1}, {Kind: 10}, {Kind: 255},
		{Kind: 200, Rat: "\xff", Name: " ", Date: -1}, {Kind: 200, Rat: "\xff", Name: " ", Date: -1, Sub: []api.Expr{{}}},
		of(4), of(4, con("1")), of(4, con("1"), con("2")), of(4, con("2"), con("1")), of(4, con("1"), con("2"), con("3")), of(5, con("1"), con("2")), of(0, of(0)), of(0, of(0), of(0)), of(0, of(0, of(0))), of(0, of(0, of(0)), of(0)), of(0, of(0), of(0, of(0))), of(0, of(0, of(0), of(0))),
		yes(), no(), not(yes(), 1), not(no(), 1), not(yes(), 2), not(yes(), 59), not(yes(), 60), sized(9), sized(500), sized(501), sized(100001),
	}
	for _, kind := range []uint8{7, 8, 9, 13, 14} {
		_, x := exampleOf(kind)
		l = append(l, x)
	}
	return l
}

func TestSizesOfTrees(t *testing.T) {
	for _, k := range []struct {
		x    api.Expr
		want int
	}{
		{api.Expr{}, 1}, {con("1"), 1}, {now(""), 1}, {yes(), 3}, {not(yes(), 3), 6}, {of(9, yes(), con("1"), con("2")), 6}, {of(1, con("1"), of(255, con("1"), of(0)), con("1")), 6}, {api.Expr{Sub: make([]api.Expr, 100000)}, 100001}, {not(yes(), 60000), 60003},
	} {
		if n := observable.Size(k.x); n != k.want {
			t.Errorf("Size(%s) = %d", short(k.x), n)
		}
	}
	for _, n := range []int{1, 3, 5, 6, 7, 8, 9, 10, 11, 12, 499, 500, 501, 12345, 100000} {
		if m := observable.Size(sized(n)); m != n {
			t.Errorf("%d instead of %d", m, n)
		}
	}
	for _, x := range trees() {
		if n := observable.Size(x); n != sizeOf(x) {
			t.Errorf("Size(%s) = %d", short(x), n)
		}
	}
}

func checkSame(t *testing.T, a, b api.Expr, want bool) {
	t.Helper()
	if observable.Same(a, b) != want || observable.Same(b, a) != want {
		t.Errorf("Same(%s, %s) is not %v", short(a), short(b), want)
	}
}

func TestSameTrees(t *testing.T) {
	l, again := trees(), trees()
	for i, a := range l {
		for j, b := range again {
			checkSame(t, a, b, i == j)
			// At the end of a way down, and beside others.
			checkSame(t, not(a, 30), not(b, 30), i == j)
			checkSame(t, of(9, yes(), a, con("1")), of(9, yes(), b, con("1")), i == j)
			checkSame(t, of(9, yes(), con("1"), a), of(9, yes(), con("1"), b), i == j)
		}
	}
	checkSame(t, not(yes(), 60000), not(yes(), 60000), true)
	checkSame(t, not(yes(), 60000), not(no(), 60000), false)
	checkSame(t, not(yes(), 60000), not(yes(), 59999), false)
}

func TestNilAndEmptyListsAreTheSame(t *testing.T) {
	spare := []api.Expr{con("1"), con("2")}
	lists := [][]api.Expr{nil, {}, spare[:0], make([]api.Expr, 0, 10)}
	for kind := range uint8(17) {
		for _, a := range lists {
			for _, b := range lists {
				x, y := api.Expr{Kind: kind, Rat: "1", Name: "a", Date: 5, Sub: a}, api.Expr{Kind: kind, Rat: "1", Name: "a", Date: 5, Sub: b}
				checkSame(t, x, y, true)
				checkSame(t, of(4, con("1"), x), of(4, con("1"), y), true)
				checkSame(t, observable.Twin(x), y, true)
				y.Sub = spare[:1]
				checkSame(t, x, y, false)
			}
		}
	}
}

func TestTwins(t *testing.T) {
	for _, x := range append(trees(), not(yes(), 60000)) {
		twin := observable.Twin(x)
		if !observable.Same(x, twin) || !same(x, twin) {
			t.Errorf("Twin(%s) = %s", short(x), short(twin))
		}
	}
	r := rand.New(rand.NewSource(1))
	for range 300 {
		x := random(r, "nt"[r.Intn(2)], 7, rats)
		if twin := observable.Twin(x); !same(x, twin) {
			t.Errorf("Twin(%s) = %s", short(x), short(twin))
		}
	}
}

// same tells whether two expressions are identical, without the help of the package.
func same(a, b api.Expr) bool {
	if len(a.Sub) != len(b.Sub) {
		return false
	}
	for i := range a.Sub {
		if !same(a.Sub[i], b.Sub[i]) {
			return false
		}
	}
	a.Sub, b.Sub = nil, nil
	return reflect.DeepEqual(a, b)
}

// scribble changes all nodes of an expression but the root, also those behind the ends of its lists.
func scribble(x api.Expr) {
	for i := range x.Sub {
		scribble(x.Sub[i])
	}
	for i := range x.Sub[:cap(x.Sub)] {
		x.Sub[:cap(x.Sub)][i] = api.Expr{Kind: 99, Rat: "9/9", Name: "changed", Date: -9}
	}
}

// roomy returns x with lists that have room for more behind their ends.
func roomy(x api.Expr) api.Expr {
	parts := make([]api.Expr, len(x.Sub), len(x.Sub)+2)
	for i, part := range x.Sub {
		parts[i] = roomy(part)
	}
	parts[:cap(parts)][len(parts)].Name = "spare"
	x.Sub = parts
	return x
}

func TestTwinsShareNoMemory(t *testing.T) {
	for i, original := range trees() {
		x := roomy(original)
		twin := observable.Twin(x)
		scribble(x)
		if !same(twin, original) {
			t.Errorf("tree %d changed with its twin's original: %s", i, short(twin))
		}
		x = roomy(original)
		twin = observable.Twin(x)
		scribble(twin)
		twin.Sub = append(twin.Sub, con("7"))
		if !same(x, original) || x.Sub[:cap(x.Sub)][len(x.Sub)].Name != "spare" {
			t.Errorf("tree %d changed with its twin: %s", i, short(x))
		}
	}
	// Parts that share their memory have twins that do not.
	part := of(4, con("1"), con("2"))
	twin := observable.Twin(of(5, part, part))
	twin.Sub[0].Sub[0] = con("3")
	checkSame(t, twin, of(5, of(4, con("3"), con("2")), part), true)
}
