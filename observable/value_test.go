package observable_test

import (
	"math/rand"
	"testing"

	"novation/api"
	"novation/observable"
)

// P8.4

// checkOtherSort checks that a valid expression has no value of the other sort, whatever the day and what is known.
func checkOtherSort(t *testing.T, x api.Expr, day int, v api.Env) {
	t.Helper()
	if table[x.Kind].sort == 'n' {
		if is, e := observable.Holds(x, day, v); is || e != api.ErrKind {
			t.Errorf("Holds(%s, %d, %s) = %v, %d", short(x), day, short(v), is, e)
		}
	} else if a, e := observable.Value(x, day, v); a != "" || e != api.ErrKind {
		t.Errorf("Value(%s, %d, %s) = %q, %d", short(x), day, short(v), a, e)
	}
}

func checkValue(t *testing.T, x api.Expr, day int, v api.Env, want api.Rat, wantE api.Errno) {
	t.Helper()
	if a, e := observable.Value(x, day, v); a != want || e != wantE {
		t.Errorf("Value(%s, %d, %s) = %.50q, %d; not %.50q, %d", short(x), day, short(v), a, e, want, wantE)
	}
	checkOtherSort(t, x, day, v)
}

func checkHolds(t *testing.T, x api.Expr, day int, v api.Env, want bool, wantE api.Errno) {
	t.Helper()
	if is, e := observable.Holds(x, day, v); is != want || e != wantE {
		t.Errorf("Holds(%s, %d, %s) = %v, %d; not %v, %d", short(x), day, short(v), is, e, want, wantE)
	}
	checkOtherSort(t, x, day, v)
}

// checkModel compares with the model.
func checkModel(t *testing.T, x api.Expr, day int, v api.Env) api.Errno {
	t.Helper()
	value, is, e := modelOf(day, v).calculate(x)
	switch {
	case table[x.Kind].sort == 't':
		checkHolds(t, x, day, v, is, e)
	case e != api.OK:
		checkValue(t, x, day, v, "", e)
	default:
		checkValue(t, x, day, v, api.Rat(value.RatString()), api.OK)
	}
	return e
}

func TestExamples(t *testing.T) {
	v := api.Env{Fixings: []api.Fixing{fixing("spot", 5, "7/2")}}
	x := of(api.ExprMax, of(api.ExprSub, now("spot"), con("3")), con("0"))
	checkValue(t, x, 5, v, "1/2", api.OK)
	checkValue(t, x, 6, v, "", api.ErrFix)
}

func TestAllKinds(t *testing.T) {
	v := api.Env{Fixings: []api.Fixing{fixing("a", 5, "3"), fixing("a", 6, "-4"), fixing("b", 5, "1/2")}}
	for _, k := range []struct {
		x    api.Expr
		want api.Rat
	}{
		{con("22/7"), "22/7"}, {fix("a", 5), "3"}, {fix("a", 6), "-4"}, {now("a"), "3"}, {now("b"), "1/2"},
		{of(api.ExprAdd, now("a"), now("b")), "7/2"}, {of(api.ExprSub, now("a"), now("b")), "5/2"}, {of(api.ExprSub, now("b"), now("a")), "-5/2"}, {of(api.ExprMul, now("a"), now("b")), "3/2"}, {of(api.ExprMul, now("a"), fix("a", 6)), "-12"},
		{of(api.ExprMax, now("a"), now("b")), "3"}, {of(api.ExprMax, now("b"), now("a")), "3"}, {of(api.ExprMin, now("a"), now("b")), "1/2"}, {of(api.ExprMin, now("b"), now("a")), "1/2"}, {of(api.ExprMin, con("0"), fix("a", 6)), "-4"}, {of(api.ExprMax, con("7/2"), con("7/2")), "7/2"}, {of(api.ExprMin, con("7/2"), con("7/2")), "7/2"},
		{of(api.ExprWhen, yes(), con("1"), con("2")), "1"}, {of(api.ExprWhen, no(), con("1"), con("2")), "2"},
	} {
		checkValue(t, k.x, 5, v, k.want, api.OK)
	}
	for _, k := range []struct {
		x    api.Expr
		want bool
	}{
		{yes(), true}, {no(), false},
		{of(api.ExprLess, con("1/3"), con("1/2")), true}, {of(api.ExprLess, con("1/2"), con("1/3")), false}, {of(api.ExprLess, con("1/2"), con("1/2")), false}, {of(api.ExprLess, con("-1/2"), con("-1/3")), true}, {of(api.ExprLess, con("9"), con("10")), true},
		{of(api.ExprEqual, con("1/3"), con("1/2")), false}, {of(api.ExprEqual, con("1/2"), con("1/3")), false}, {of(api.ExprEqual, con("1/2"), con("1/2")), true}, {of(api.ExprEqual, con("1/2"), con("-1/2")), false}, {of(api.ExprEqual, of(api.ExprAdd, con("1/6"), con("1/3")), now("b")), true},
		{of(api.ExprAnd, yes(), yes()), true}, {of(api.ExprAnd, yes(), no()), false}, {of(api.ExprAnd, no(), yes()), false}, {of(api.ExprAnd, no(), no()), false},
		{of(api.ExprOr, yes(), yes()), true}, {of(api.ExprOr, yes(), no()), true}, {of(api.ExprOr, no(), yes()), true}, {of(api.ExprOr, no(), no()), false},
		{of(api.ExprNot, yes()), false}, {of(api.ExprNot, no()), true},
	} {
		checkHolds(t, k.x, 5, v, k.want, api.OK)
	}
}

func TestOperationsOnTwoNumbers(t *testing.T) {
	failed := map[uint8]int{}
	for _, a := range rats {
		for _, b := range rats {
			for _, kind := range []uint8{api.ExprAdd, api.ExprSub, api.ExprMul, api.ExprMax, api.ExprMin, api.ExprLess, api.ExprEqual} {
				if checkModel(t, of(kind, con(a), con(b)), 5, api.Env{}) == api.ErrBig {
					failed[kind]++
				}
			}
		}
	}
	if len(failed) != 7 {
		t.Errorf("not all kinds have ErrBig: %v", failed)
	}
}

// TestFixingsOfDays has a fixing on each of some days, and asks on all of them.
func TestFixingsOfDays(t *testing.T) {
	for _, name := range names {
		for _, date := range someDays {
			v := api.Env{Fixings: []api.Fixing{fixing(name, date, "7/2")}}
			for _, day := range someDays {
				checkValue(t, fix(name, date), day, v, "7/2", api.OK)
				if day == date {
					checkValue(t, now(name), day, v, "7/2", api.OK)
				} else {
					checkValue(t, now(name), day, v, "", api.ErrFix)
					checkValue(t, fix(name, day), date, v, "", api.ErrFix)
				}
				checkValue(t, now("Q"+name[1:]), day, v, "", api.ErrFix)
			}
		}
	}
}

func TestOtherDays(t *testing.T) {
	v := api.Env{Fixings: []api.Fixing{fixing("a", 0, "3"), fixing("a", api.MaxDate, "4")}}
	checkValue(t, now("a"), 0, v, "3", api.OK)
	checkValue(t, now("a"), api.MaxDate, v, "4", api.OK)
	checkHolds(t, of(api.ExprEqual, now("a"), con("3")), 0, v, true, api.OK)
	checkHolds(t, of(api.ExprEqual, now("a"), con("3")), api.MaxDate, v, false, api.OK)
	for _, day := range noDays {
		for _, x := range []api.Expr{con("1"), now("a"), fix("a", 0), now("missing"), of(api.ExprMul, con(tens(999)), con(tens(999)))} {
			checkValue(t, x, day, v, "", api.ErrArg)
			checkHolds(t, of(api.ExprEqual, x, x), day, v, false, api.ErrArg)
		}
	}
}

// TestErrorsInTheirOrder has several errors at once; those of expressions that are not valid are in checkExpr, and those of what is known in checkKnown.
func TestErrorsInTheirOrder(t *testing.T) {
	for kind := range table {
		_, x := exampleOf(kind)
		for _, v := range []api.Env{{}, {Fixings: fixingsOf(5)}, {Fixings: make([]api.Fixing, 1)}, {Choices: make([]api.Choice, 1001)}} {
			for _, day := range []int{0, 5, -1, api.MaxDate + 1} {
				checkOtherSort(t, x, day, v)
			}
		}
	}
}

var (
	missing = now("missing")
	tooBig  = of(api.ExprMul, con(tens(500)), con(tens(500)))
)

// unknown and long are truth values that have no value.
func unknown() api.Expr { return of(api.ExprLess, missing, con("1")) }
func long() api.Expr    { return of(api.ExprLess, con("1"), tooBig) }

func TestFirstErrorsOfNumbers(t *testing.T) {
	one := con("1")
	for _, kind := range []uint8{api.ExprAdd, api.ExprSub, api.ExprMul, api.ExprMax, api.ExprMin} {
		for _, k := range []struct {
			a, b api.Expr
			want api.Errno
		}{
			{missing, one, api.ErrFix}, {one, missing, api.ErrFix}, {tooBig, one, api.ErrBig}, {one, tooBig, api.ErrBig}, {missing, tooBig, api.ErrFix}, {tooBig, missing, api.ErrBig}, {missing, missing, api.ErrFix}, {tooBig, tooBig, api.ErrBig},
			{con("0"), missing, api.ErrFix}, {missing, con("0"), api.ErrFix}, {con("0"), tooBig, api.ErrBig}, // also where one number would do
			{of(kind, one, missing), tooBig, api.ErrFix}, {of(kind, one, tooBig), missing, api.ErrBig}, {one, of(kind, tooBig, missing), api.ErrBig},
		} {
			checkValue(t, of(kind, k.a, k.b), 5, api.Env{}, "", k.want)
		}
	}
	for _, kind := range []uint8{api.ExprLess, api.ExprEqual} {
		for _, k := range []struct {
			a, b api.Expr
			want api.Errno
		}{
			{missing, one, api.ErrFix}, {one, missing, api.ErrFix}, {tooBig, one, api.ErrBig}, {one, tooBig, api.ErrBig}, {missing, tooBig, api.ErrFix}, {tooBig, missing, api.ErrBig}, {missing, missing, api.ErrFix}, {tooBig, tooBig, api.ErrBig},
		} {
			checkHolds(t, of(kind, k.a, k.b), 5, api.Env{}, false, k.want)
		}
	}
}

func TestPartsThatAreNotEvaluated(t *testing.T) {
	for _, bad := range []api.Expr{missing, tooBig} {
		want := api.ErrFix
		if bad.Kind == api.ExprMul {
			want = api.ErrBig
		}
		checkValue(t, of(api.ExprWhen, yes(), con("1"), bad), 5, api.Env{}, "1", api.OK)
		checkValue(t, of(api.ExprWhen, no(), bad, con("2")), 5, api.Env{}, "2", api.OK)
		checkValue(t, of(api.ExprWhen, yes(), bad, con("2")), 5, api.Env{}, "", want)
		checkValue(t, of(api.ExprWhen, no(), con("1"), bad), 5, api.Env{}, "", want)
		checkValue(t, of(api.ExprWhen, of(api.ExprLess, bad, con("1")), con("1"), con("1")), 5, api.Env{}, "", want)
	}
	// The first part comes first.
	checkValue(t, of(api.ExprWhen, unknown(), tooBig, tooBig), 5, api.Env{}, "", api.ErrFix)
	checkValue(t, of(api.ExprWhen, long(), missing, missing), 5, api.Env{}, "", api.ErrBig)
	for _, k := range []struct {
		x    api.Expr
		want bool
		e    api.Errno
	}{
		{of(api.ExprAnd, no(), unknown()), false, api.OK}, {of(api.ExprAnd, no(), long()), false, api.OK}, {of(api.ExprOr, yes(), unknown()), true, api.OK}, {of(api.ExprOr, yes(), long()), true, api.OK},
		{of(api.ExprAnd, yes(), unknown()), false, api.ErrFix}, {of(api.ExprAnd, yes(), long()), false, api.ErrBig}, {of(api.ExprOr, no(), unknown()), false, api.ErrFix}, {of(api.ExprOr, no(), long()), false, api.ErrBig},
		{of(api.ExprAnd, unknown(), no()), false, api.ErrFix}, {of(api.ExprAnd, long(), no()), false, api.ErrBig}, {of(api.ExprOr, unknown(), yes()), false, api.ErrFix}, {of(api.ExprOr, long(), yes()), false, api.ErrBig},
		{of(api.ExprAnd, unknown(), long()), false, api.ErrFix}, {of(api.ExprAnd, long(), unknown()), false, api.ErrBig}, {of(api.ExprOr, unknown(), long()), false, api.ErrFix}, {of(api.ExprOr, long(), unknown()), false, api.ErrBig},
		{of(api.ExprNot, unknown()), false, api.ErrFix}, {of(api.ExprNot, long()), false, api.ErrBig}, {not(unknown(), 2), false, api.ErrFix},
		{of(api.ExprNot, of(api.ExprOr, yes(), unknown())), false, api.OK}, {of(api.ExprNot, of(api.ExprAnd, no(), long())), true, api.OK},
	} {
		checkHolds(t, k.x, 5, api.Env{}, k.want, k.e)
	}
}

// TestLongNumbersOnTheWay has values that are short themselves.
func TestLongNumbersOnTheWay(t *testing.T) {
	nines := of(api.ExprSub, con(tens(999)), con("1"))
	checkValue(t, of(api.ExprSub, of(api.ExprAdd, nines, con(tens(999))), nines), 5, api.Env{}, tens(999), api.OK)
	checkValue(t, of(api.ExprMul, tooBig, con("0")), 5, api.Env{}, "", api.ErrBig)
	checkValue(t, of(api.ExprMul, con("0"), tooBig), 5, api.Env{}, "", api.ErrBig)
	checkValue(t, of(api.ExprSub, tooBig, tooBig), 5, api.Env{}, "", api.ErrBig)
	checkHolds(t, of(api.ExprEqual, tooBig, tooBig), 5, api.Env{}, false, api.ErrBig)
	// Layer 2 compares by products, which may be too long.
	upper, lower := con(tens(600)), con("1/"+tens(600))
	checkValue(t, of(api.ExprMax, upper, lower), 5, api.Env{}, "", api.ErrBig)
	checkValue(t, of(api.ExprMin, upper, lower), 5, api.Env{}, "", api.ErrBig)
	checkHolds(t, of(api.ExprLess, upper, lower), 5, api.Env{}, false, api.ErrBig)
	checkHolds(t, of(api.ExprEqual, upper, lower), 5, api.Env{}, false, api.ErrBig)
	checkValue(t, of(api.ExprMul, upper, lower), 5, api.Env{}, "1", api.OK)
}

func TestRandomExpressions(t *testing.T) {
	r := rand.New(rand.NewSource(5))
	seen := map[api.Errno]int{}
	for i := range 20000 {
		l := few
		if i%10 == 0 {
			l = rats
		}
		x, v := random(r, "nt"[i%2], 2+r.Intn(6), l), randomEnv(r, l)
		if observable.Check(x) == api.OK { // some are too large
			seen[checkModel(t, x, r.Intn(4), v)]++
		}
	}
	if seen[api.OK] < 5000 || seen[api.ErrFix] < 1000 || seen[api.ErrBig] < 200 {
		t.Errorf("too few of a kind: %v", seen)
	}
}

func TestLargestExpressions(t *testing.T) {
	checkModel(t, sized(500), 5, api.Env{})
	for _, x := range deep(60) {
		checkModel(t, x, 5, api.Env{})
	}
	x := now("a")
	for range 7 {
		x = of(api.ExprAdd, x, x)
	}
	checkValue(t, x, 5, api.Env{Fixings: []api.Fixing{fixing("a", 5, "7/2")}}, "448", api.OK)
	full := api.Env{Fixings: fixingsOf(1000), Choices: choicesOf(1000)}
	for _, f := range full.Fixings {
		checkValue(t, now(f.Name), f.Date, full, f.Value, api.OK)
	}
}
