package observable_test

import (
	"testing"

	"novation/api"
	"novation/observable"
)

// P8.1

// checkExpr checks what all functions say of an expression that has an error, or of a valid one of a sort.
func checkExpr(t *testing.T, x api.Expr, sort byte, want api.Errno) {
	t.Helper()
	if e := observable.Check(x); e != want {
		t.Errorf("Check(%s) = %d, not %d", short(x), e, want)
	}
	if is := observable.Number(x); is != (want == api.OK && sort == 'n') {
		t.Errorf("Number(%s) = %v", short(x), is)
	}
	if is := observable.Truth(x); is != (want == api.OK && sort == 't') {
		t.Errorf("Truth(%s) = %v", short(x), is)
	}
	if want == api.OK {
		return
	}
	// Check's error comes before the ones of what is known and of the day.
	for _, v := range []api.Env{{}, {Fixings: make([]api.Fixing, 1)}, {Fixings: make([]api.Fixing, 1001)}} {
		for _, day := range []int{5, -1} {
			if a, e := observable.Value(x, day, v); a != "" || e != want {
				t.Errorf("Value(%s) = %q, %d, not %d", short(x), a, e, want)
			}
			if is, e := observable.Holds(x, day, v); is || e != want {
				t.Errorf("Holds(%s) = %v, %d, not %d", short(x), is, e, want)
			}
		}
	}
}

// TestAllKindsWithAllParts has each kind from 0 to 255 with each set of fields and each list of up to four parts.
func TestAllKindsWithAllParts(t *testing.T) {
	for kind := range 256 {
		r, exists := table[uint8(kind)]
		for _, parts := range sorts(4) {
			for bits := range 8 {
				x, good := api.Expr{Kind: uint8(kind)}, exists && parts == r.parts
				if bits&1 == 1 {
					x.Rat = "1/2"
				}
				if bits&2 == 2 {
					x.Name = "a"
				}
				if bits&4 == 4 {
					x.Date = 5
				}
				good = good && (x.Rat != "") == r.rat && (x.Name != "") == r.name && (x.Date == 0 || r.date)
				x.Sub = partsOf(parts)
				if good {
					checkExpr(t, x, r.sort, api.OK)
				} else {
					checkExpr(t, x, 0, api.ErrBad)
				}
			}
		}
	}
}

// TestFieldsThatMustBeZero has other values than the ones above in each field that must be zero.
func TestFieldsThatMustBeZero(t *testing.T) {
	for kind := range table {
		r, example := exampleOf(kind)
		checkExpr(t, example, r.sort, api.OK)
		for _, change := range []func(x *api.Expr){
			func(x *api.Expr) { x.Rat = "0" }, func(x *api.Expr) { x.Rat = " " }, func(x *api.Expr) { x.Rat = tens(2000) },
		} {
			if x := example; !r.rat {
				change(&x)
				checkExpr(t, x, 0, api.ErrBad)
			}
		}
		for _, name := range append(names, noNames...) {
			if x := example; !r.name && name != "" {
				x.Name = name
				checkExpr(t, x, 0, api.ErrBad)
			}
		}
		for _, date := range append(someDays, noDays...) {
			if x := example; !r.date && date != 0 {
				x.Date = date
				checkExpr(t, x, 0, api.ErrBad)
			}
		}
	}
}

func TestConstants(t *testing.T) {
	for _, a := range rats {
		checkExpr(t, con(a), 'n', api.OK)
	}
	for a := range noRats() {
		for _, x := range everywhere(con(a), 'n') {
			checkExpr(t, x, 0, api.ErrBad)
		}
	}
}

func TestNamesOfFixings(t *testing.T) {
	for _, name := range names {
		checkExpr(t, fix(name, 5), 'n', api.OK)
		checkExpr(t, now(name), 'n', api.OK)
	}
	for _, name := range noNames {
		for _, x := range append(everywhere(fix(name, 5), 'n'), everywhere(now(name), 'n')...) {
			checkExpr(t, x, 0, api.ErrBad)
		}
	}
}

func TestDatesOfFixings(t *testing.T) {
	for _, date := range someDays {
		checkExpr(t, fix("a", date), 'n', api.OK)
	}
	for _, date := range noDays {
		for _, x := range everywhere(fix("a", date), 'n') {
			checkExpr(t, x, 0, api.ErrBad)
		}
	}
}

// TestPartsOfParts has an error, and none, in each part of each part of each kind.
func TestPartsOfParts(t *testing.T) {
	for kind, r := range table {
		_, example := exampleOf(kind)
		wrong := example
		wrong.Sub = append(append([]api.Expr{}, example.Sub...), con("1"))
		for _, x := range everywhere(example, r.sort) {
			outer := table[x.Kind].sort
			for _, y := range everywhere(x, outer) {
				checkExpr(t, y, table[y.Kind].sort, api.OK)
			}
		}
		for _, bad := range []api.Expr{wrong, {}, {Kind: 10}, {Kind: 16}, {Kind: kind, Rat: "1", Name: "a"}} {
			for _, x := range everywhere(bad, r.sort) {
				for _, y := range everywhere(x, table[x.Kind].sort) {
					checkExpr(t, y, 0, api.ErrBad)
				}
			}
		}
		// A part of the other sort.
		for _, x := range everywhere(example, 'n'+'t'-r.sort)[1:] {
			checkExpr(t, x, 0, api.ErrBad)
		}
	}
}

func TestEmptyListsAreNoParts(t *testing.T) {
	spare := []api.Expr{con("1"), con("2")}
	for kind, r := range table {
		_, x := exampleOf(kind)
		for _, none := range [][]api.Expr{nil, {}, spare[:0]} {
			x.Sub = none
			if r.parts == "" {
				checkExpr(t, x, r.sort, api.OK)
			} else {
				checkExpr(t, x, 0, api.ErrBad)
			}
		}
	}
}

func TestSizes(t *testing.T) {
	for _, n := range []int{1, 3, 5, 6, 7, 100, 498, 499, 500} {
		checkExpr(t, sized(n), 'n', api.OK)
		if n >= 100 {
			checkExpr(t, of(api.ExprNot, of(api.ExprLess, con("1"), sized(n-3))), 't', api.OK)
		}
	}
	for _, n := range []int{501, 502, 503, 1000, 5001, 100000} {
		checkExpr(t, sized(n), 0, api.ErrMany)
		checkExpr(t, of(api.ExprNot, of(api.ExprLess, sized(n-3), con("1"))), 0, api.ErrMany)
	}
}

func TestDepths(t *testing.T) {
	for _, n := range []int{4, 5, 30, 59, 60} {
		for _, x := range deep(n) {
			if depthOf(x) != n {
				t.Fatalf("a depth of %d, not %d: %s", depthOf(x), n, short(x))
			}
			checkExpr(t, x, table[x.Kind].sort, api.OK)
		}
	}
	for _, n := range []int{61, 62, 100} {
		for _, x := range deep(n) {
			checkExpr(t, x, 0, api.ErrMany)
		}
	}
	checkExpr(t, not(yes(), 60000), 0, api.ErrMany)
}

// TestSizesAndDepthsComeFirst has expressions that are not well-formed, and may be too large or too deep as well.
func TestSizesAndDepthsComeFirst(t *testing.T) {
	for kind := range uint8(20) {
		for n, want := range map[int]api.Errno{498: api.ErrBad, 499: api.ErrBad, 500: api.ErrMany, 501: api.ErrMany, 100000: api.ErrMany} {
			checkExpr(t, api.Expr{Kind: kind, Sub: make([]api.Expr, n)}, 0, want)
			// All nodes count, in parts that must not be there as well.
			checkExpr(t, of(kind, con("1"), con("1"), api.Expr{Sub: make([]api.Expr, n-4)}, con("1")), 0, want)
		}
		x := api.Expr{Rat: "x"}
		for n := 2; n <= 62; n++ {
			x = of(kind, x)
			if n <= 60 {
				checkExpr(t, x, 0, api.ErrBad)
			} else {
				checkExpr(t, x, 0, api.ErrMany)
			}
		}
	}
	bad := sized(500)
	bad.Name = "a"
	checkExpr(t, bad, 0, api.ErrBad)
	bad = sized(501)
	bad.Name = "a"
	checkExpr(t, bad, 0, api.ErrMany)
	for _, x := range deep(60) {
		x.Date = 1
		checkExpr(t, x, 0, api.ErrBad)
	}
	for _, x := range deep(61) {
		x.Date = 1
		checkExpr(t, x, 0, api.ErrMany)
	}
}

// TestManyNodesInLittleMemory has parts that share their memory, so that there are far more nodes than could be counted.
func TestManyNodesInLittleMemory(t *testing.T) {
	x := con("1")
	for range 8 {
		x = of(api.ExprAdd, x, x)
	}
	if sizeOf(x) != 511 {
		t.Fatal(sizeOf(x))
	}
	checkExpr(t, x.Sub[0], 'n', api.OK)
	checkExpr(t, x, 0, api.ErrMany)
	for range 5000 {
		x = of(api.ExprAdd, x, x)
	}
	checkExpr(t, x, 0, api.ErrMany)
}
