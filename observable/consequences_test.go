package observable_test

import (
	"math/rand"
	"slices"
	"testing"

	"novation/api"
	"novation/observable"
)

// P8.5

// An outcome is what an expression has: a value, a truth, or an error.
type outcome struct {
	value api.Rat
	is    bool
	e     api.Errno
}

func outcomeOf(x api.Expr, day int, v api.Env) (o outcome) {
	if table[x.Kind].sort == 'n' {
		o.value, o.e = observable.Value(x, day, v)
	} else {
		o.is, o.e = observable.Holds(x, day, v)
	}
	return o
}

// expr returns an expression that has an outcome without an error.
func (o outcome) expr() api.Expr {
	switch {
	case o.value != "":
		return con(o.value)
	case o.is:
		return yes()
	}
	return no()
}

// samples calls f with valid expressions, days, and what is known.
func samples(seed int64, f func(r *rand.Rand, x api.Expr, day int, v api.Env)) {
	r := rand.New(rand.NewSource(seed))
	for i := range 6000 {
		l := few
		if i%10 == 0 {
			l = rats
		}
		if x := random(r, "nt"[i%2], 3+r.Intn(4), l); sizeOf(x) <= api.MaxNodes {
			f(r, x, r.Intn(4), randomEnv(r, l))
		}
	}
}

// TestValuesArePutTogether replaces parts by their values.
func TestValuesArePutTogether(t *testing.T) {
	replaced := 0
	samples(6, func(r *rand.Rand, x api.Expr, day int, v api.Env) {
		want := outcomeOf(x, day, v)
		for i, part := range x.Sub {
			o := outcomeOf(part, day, v)
			if o.e != api.OK {
				continue
			}
			y := observable.Twin(x)
			y.Sub[i] = o.expr()
			replaced++
			if got := outcomeOf(y, day, v); got != want {
				t.Errorf("%s on %d: %v, but %s: %v", short(x), day, want, short(y), got)
			}
		}
	})
	if replaced < 3000 {
		t.Errorf("only %d parts", replaced)
	}
}

// mentioned returns the fixings that x mentions.
func mentioned(x api.Expr, day int) []api.Fixing {
	if x.Kind == api.ExprFix {
		return []api.Fixing{{Name: x.Name, Date: x.Date}}
	}
	if x.Kind == api.ExprNow {
		return []api.Fixing{{Name: x.Name, Date: day}}
	}
	var l []api.Fixing
	for _, part := range x.Sub {
		l = append(l, mentioned(part, day)...)
	}
	return l
}

// TestOtherKnowledgeDoesNotMatter changes and adds fixings that are not mentioned, or leaves them out, and changes choices.
func TestOtherKnowledgeDoesNotMatter(t *testing.T) {
	samples(7, func(r *rand.Rand, x api.Expr, day int, v api.Env) {
		needed := mentioned(x, day)
		isNeeded := func(f api.Fixing) bool {
			return slices.ContainsFunc(needed, func(n api.Fixing) bool { return n.Name == f.Name && n.Date == f.Date })
		}
		var only api.Env
		for _, f := range v.Fixings {
			if isNeeded(f) {
				only.Fixings = append(only.Fixings, f)
			}
		}
		other := randomEnv(r, rats)
		for _, f := range append(only.Fixings, api.Fixing{Name: "A", Date: 1, Value: "1"}, api.Fixing{Name: "z", Date: 1, Value: "1"}) {
			other, _ = observable.Put(other, f)
		}
		other.Fixings = slices.DeleteFunc(other.Fixings, func(f api.Fixing) bool {
			_, there := observable.Find(only, f.Name, f.Date)
			return isNeeded(f) && !there
		})
		if e := observable.CheckEnv(other); e != api.OK || len(other.Fixings) < 2 {
			t.Fatal(e, other)
		}
		want := outcomeOf(x, day, v)
		for _, w := range []api.Env{only, other} {
			if got := outcomeOf(x, day, w); got != want {
				t.Errorf("%s on %d with %s: %v, but with %s: %v", short(x), day, short(v), want, short(w), got)
			}
		}
	})
}

// unevaluated returns x with other parts where parts are not evaluated.
func unevaluated(r *rand.Rand, x api.Expr, day int, v api.Env) api.Expr {
	x = observable.Twin(x)
	if len(x.Sub) == 0 {
		return x
	}
	o := outcomeOf(x.Sub[0], day, v)
	for i := range x.Sub {
		skipped := i > 0 && o.e != api.OK
		switch x.Kind {
		case api.ExprWhen:
			skipped = skipped || i == 1 && !o.is || i == 2 && o.is
		case api.ExprAnd:
			skipped = skipped || i == 1 && !o.is
		case api.ExprOr:
			skipped = skipped || i == 1 && o.is
		}
		if skipped {
			x.Sub[i] = random(r, table[x.Kind].parts[i], 3, rats)
		} else {
			x.Sub[i] = unevaluated(r, x.Sub[i], day, v)
		}
	}
	return x
}

func TestPartsThatAreNotEvaluatedDoNotMatter(t *testing.T) {
	changed := 0
	samples(8, func(r *rand.Rand, x api.Expr, day int, v api.Env) {
		y := unevaluated(r, x, day, v)
		if !observable.Same(x, y) {
			changed++
		}
		if want, got := outcomeOf(x, day, v), outcomeOf(y, day, v); got != want && sizeOf(y) <= api.MaxNodes {
			t.Errorf("%s on %d: %v, but %s: %v", short(x), day, want, short(y), got)
		}
	})
	if changed < 1000 {
		t.Errorf("only %d changes", changed)
	}
}

// onDay returns x with ExprFix instead of ExprNow.
func onDay(x api.Expr, day int) api.Expr {
	x = observable.Twin(x)
	if x.Kind == api.ExprNow {
		return fix(x.Name, day)
	}
	for i, part := range x.Sub {
		x.Sub[i] = onDay(part, day)
	}
	return x
}

func TestNowIsTheCurrentDay(t *testing.T) {
	samples(9, func(r *rand.Rand, x api.Expr, day int, v api.Env) {
		y, want := onDay(x, day), outcomeOf(x, day, v)
		// The day of the evaluation does not matter any more.
		for _, other := range []int{day, 0, api.MaxDate} {
			if got := outcomeOf(y, other, v); got != want {
				t.Errorf("%s on %d: %v, but %s: %v", short(x), day, want, short(y), got)
			}
		}
	})
}

func TestArgumentsAreNotChanged(t *testing.T) {
	samples(10, func(r *rand.Rand, x api.Expr, day int, v api.Env) {
		y, w := roomy(x), api.Env{Fixings: spared(v.Fixings, spareFixing), Choices: spared(v.Choices, spareChoice)}
		outcomeOf(y, day, w)
		observable.Size(y)
		observable.Same(y, x)
		observable.Find(w, "a", 1)
		observable.Chosen(w, "p", "a", 1)
		if !same(x, y) || y.Sub[:cap(y.Sub)][len(y.Sub)].Name != "spare" {
			t.Errorf("%s became %s", short(x), short(y))
		}
		checkNew(t, w, v, api.Env{}, api.Env{})
	})
}

// TestRepeatedCallsAgree has calls with other arguments in between.
func TestRepeatedCallsAgree(t *testing.T) {
	type call struct {
		x   api.Expr
		day int
		v   api.Env
		o   outcome
	}
	var calls []call
	samples(11, func(r *rand.Rand, x api.Expr, day int, v api.Env) {
		calls = append(calls, call{x, day, v, outcomeOf(x, day, v)})
	})
	for _, c := range slices.Backward(calls) {
		if o := outcomeOf(c.x, c.day, c.v); o != c.o {
			t.Errorf("%s on %d: first %v, then %v", short(c.x), c.day, c.o, o)
		}
	}
}
