package observable_test

import (
	"math/rand"
	"slices"
	"testing"

	"novation/api"
	"novation/observable"
)

// P8.2

// fixingsOf are n fixings in order, and choicesOf n choices.
func fixingsOf(n int) []api.Fixing {
	l := make([]api.Fixing, n)
	for i := range l {
		l[i] = api.Fixing{Name: names[i*len(names)/n], Date: 90 * i, Value: few[i%len(few)]}
	}
	return l
}

func choicesOf(n int) []api.Choice {
	l := make([]api.Choice, n)
	for i := range l {
		l[i] = api.Choice{Party: names[i*len(names)/n], Name: names[i*5*len(names)/n%len(names)], Date: 90 * i, First: i%3 == 0}
	}
	return l
}

// checkKnown checks what all functions say of what is known.
func checkKnown(t *testing.T, v api.Env, want api.Errno) {
	t.Helper()
	if e := observable.CheckEnv(v); e != want {
		t.Errorf("CheckEnv(%s) = %d, not %d", short(v), e, want)
	}
	if want == api.OK {
		return
	}
	// CheckEnv's error comes before those of the other arguments, but after those of expressions.
	for _, f := range []api.Fixing{{Name: "a", Date: 1, Value: "1"}, {Name: "", Date: 1, Value: "1"}, {Name: "a", Date: -1, Value: "1"}, {Name: "a", Date: 1, Value: "x"}} {
		if w, e := observable.Put(v, f); !isZero(w) || e != want {
			t.Errorf("Put(%s, %v) = %s, %d, not %d", short(v), f, short(w), e, want)
		}
	}
	for _, c := range []api.Choice{{Party: "a", Name: "a", Date: 1}, {Party: "", Name: "a", Date: 1}, {Party: "a", Name: "", Date: 1}, {Party: "a", Name: "a", Date: -1}} {
		if w, e := observable.Choose(v, c); !isZero(w) || e != want {
			t.Errorf("Choose(%s, %v) = %s, %d, not %d", short(v), c, short(w), e, want)
		}
	}
	for _, day := range []int{1, -1, api.MaxDate + 1} {
		for _, x := range []api.Expr{con("1"), now("missing")} {
			if a, e := observable.Value(x, day, v); a != "" || e != want {
				t.Errorf("Value(%s, %d, %s) = %q, %d, not %d", short(x), day, short(v), a, e, want)
			}
			checkOtherSort(t, x, day, v)
		}
		for _, x := range []api.Expr{yes(), of(12, con("1"), now("missing"))} {
			if is, e := observable.Holds(x, day, v); is || e != want {
				t.Errorf("Holds(%s, %d, %s) = %v, %d, not %d", short(x), day, short(v), is, e, want)
			}
			checkOtherSort(t, x, day, v)
		}
	}
}

func isZero(v api.Env) bool {
	return len(v.Fixings) == 0 && len(v.Choices) == 0
}

func TestValidKnowledge(t *testing.T) {
	checkKnown(t, api.Env{}, api.OK)
	checkKnown(t, api.Env{Fixings: []api.Fixing{}, Choices: []api.Choice{}}, api.OK)
	for _, n := range []int{1, 2, 25, 999, 1000} {
		checkKnown(t, api.Env{Fixings: fixingsOf(n)}, api.OK)
		checkKnown(t, api.Env{Choices: choicesOf(n)}, api.OK)
		checkKnown(t, api.Env{Fixings: fixingsOf(n), Choices: choicesOf(1000)}, api.OK)
	}
	for _, name := range names {
		for _, date := range someDays {
			checkKnown(t, api.Env{Fixings: []api.Fixing{fixing(name, date, "1")}, Choices: []api.Choice{choice("A", name, date, true)}}, api.OK)
			checkKnown(t, api.Env{Choices: []api.Choice{choice(name, "A", date, false)}}, api.OK)
		}
	}
	for _, a := range rats {
		checkKnown(t, api.Env{Fixings: []api.Fixing{fixing("a", 1, a)}}, api.OK)
	}
}

func TestTooMuchKnowledge(t *testing.T) {
	fixings, choices := fixingsOf(1001), choicesOf(1001)
	checkKnown(t, api.Env{Fixings: fixings[:1000], Choices: choices[:1000]}, api.OK)
	checkKnown(t, api.Env{Fixings: fixings}, api.ErrMany)
	checkKnown(t, api.Env{Choices: choices}, api.ErrMany)
	checkKnown(t, api.Env{Fixings: fixings, Choices: choices}, api.ErrMany)
	// Too many is found before anything else is looked at.
	checkKnown(t, api.Env{Fixings: make([]api.Fixing, 1001)}, api.ErrMany)
	checkKnown(t, api.Env{Fixings: make([]api.Fixing, 1000)}, api.ErrBad)
	checkKnown(t, api.Env{Choices: make([]api.Choice, 1001)}, api.ErrMany)
	checkKnown(t, api.Env{Choices: make([]api.Choice, 1000)}, api.ErrBad)
	checkKnown(t, api.Env{Fixings: make([]api.Fixing, 1), Choices: choices}, api.ErrMany)
	checkKnown(t, api.Env{Fixings: fixings, Choices: make([]api.Choice, 1)}, api.ErrMany)
	checkKnown(t, api.Env{Fixings: make([]api.Fixing, 100000), Choices: make([]api.Choice, 100000)}, api.ErrMany)
}

// TestWrongElements has one element that is wrong, at the beginning, inside and at the end.
func TestWrongElements(t *testing.T) {
	for _, i := range []int{0, 7, 20} {
		changeFixing := func(change func(f *api.Fixing)) {
			v := api.Env{Fixings: fixingsOf(21), Choices: choicesOf(21)}
			change(&v.Fixings[i])
			checkKnown(t, v, api.ErrBad)
		}
		changeChoice := func(change func(c *api.Choice)) {
			v := api.Env{Fixings: fixingsOf(21), Choices: choicesOf(21)}
			change(&v.Choices[i])
			checkKnown(t, v, api.ErrBad)
		}
		for _, name := range noNames {
			changeFixing(func(f *api.Fixing) { f.Name = name })
			changeChoice(func(c *api.Choice) { c.Name = name })
			changeChoice(func(c *api.Choice) { c.Party = name })
		}
		for _, date := range noDays {
			changeFixing(func(f *api.Fixing) { f.Date = date })
			changeChoice(func(c *api.Choice) { c.Date = date })
		}
		for a := range noRats() {
			changeFixing(func(f *api.Fixing) { f.Value = a })
		}
	}
}

// TestSingleWrongElements has elements without any neighbour with which they could be out of order.
func TestSingleWrongElements(t *testing.T) {
	for _, name := range noNames {
		checkKnown(t, api.Env{Fixings: []api.Fixing{fixing(name, 1, "1")}}, api.ErrBad)
		checkKnown(t, api.Env{Choices: []api.Choice{choice(name, "a", 1, true)}}, api.ErrBad)
		checkKnown(t, api.Env{Choices: []api.Choice{choice("a", name, 1, true)}}, api.ErrBad)
	}
	for _, date := range noDays {
		checkKnown(t, api.Env{Fixings: []api.Fixing{fixing("a", date, "1")}}, api.ErrBad)
		checkKnown(t, api.Env{Choices: []api.Choice{choice("a", "a", date, true)}}, api.ErrBad)
	}
	for a := range noRats() {
		checkKnown(t, api.Env{Fixings: []api.Fixing{fixing("a", 1, a)}}, api.ErrBad)
	}
}

// A place is where a choice stands among others, or, without a party, a fixing.
type place struct {
	party, name string
	date        int
}

// places are some of them, in increasing order.
func places() []place {
	var l []place
	for _, party := range []string{"B", "a", "a-", "aa"} {
		for _, name := range []string{"A", "AA", "X_", "Xa", "a"} {
			for _, date := range []int{0, 2, 9, 10, api.MaxDate} {
				l = append(l, place{party, name, date})
			}
		}
	}
	return l
}

func TestOrderOfTwo(t *testing.T) {
	l := places()
	for i, p := range l {
		for j, q := range l {
			want := api.ErrBad
			if i < j {
				want = api.OK
			}
			checkKnown(t, api.Env{Choices: []api.Choice{choice(p.party, p.name, p.date, true), choice(q.party, q.name, q.date, false)}}, want)
			if p.party == q.party {
				checkKnown(t, api.Env{Fixings: []api.Fixing{fixing(p.name, p.date, "1"), fixing(q.name, q.date, "2")}}, want)
			}
		}
	}
	for i, p := range names {
		for j, q := range names {
			want := api.ErrBad
			if i < j {
				want = api.OK
			}
			checkKnown(t, api.Env{Fixings: []api.Fixing{fixing(p, 9, "1"), fixing(q, 5, "2")}}, want)
			checkKnown(t, api.Env{Choices: []api.Choice{choice(p, "b", 9, true), choice(q, "a", 5, true)}}, want)
			checkKnown(t, api.Env{Choices: []api.Choice{choice("p", p, 9, true), choice("p", q, 5, true)}}, want)
		}
	}
}

// TestOrderOfMany exchanges and repeats elements.
func TestOrderOfMany(t *testing.T) {
	for _, n := range []int{3, 40, 1000} {
		for _, i := range []int{0, n / 2, n - 2} {
			v := api.Env{Fixings: fixingsOf(n), Choices: choicesOf(n)}
			v.Fixings[i], v.Fixings[i+1] = v.Fixings[i+1], v.Fixings[i]
			checkKnown(t, v, api.ErrBad)
			v = api.Env{Fixings: fixingsOf(n), Choices: choicesOf(n)}
			v.Choices[i], v.Choices[i+1] = v.Choices[i+1], v.Choices[i]
			checkKnown(t, v, api.ErrBad)
			v = api.Env{Fixings: fixingsOf(n), Choices: choicesOf(n)}
			v.Fixings[i+1] = v.Fixings[i]
			checkKnown(t, v, api.ErrBad)
			v.Fixings[i+1].Value = "17/19"
			checkKnown(t, v, api.ErrBad)
			v = api.Env{Fixings: fixingsOf(n), Choices: choicesOf(n)}
			v.Choices[i+1] = v.Choices[i]
			checkKnown(t, v, api.ErrBad)
			v.Choices[i+1].First = !v.Choices[i].First
			checkKnown(t, v, api.ErrBad)
		}
	}
}

func checkFind(t *testing.T, v api.Env, name string, date int, want api.Rat, wanted bool) {
	t.Helper()
	if a, there := observable.Find(v, name, date); a != want || there != wanted {
		t.Errorf("Find(%s, %q, %d) = %q, %v; not %q, %v", short(v), name, date, a, there, want, wanted)
	}
}

func checkChosen(t *testing.T, v api.Env, party, name string, date int, want bool) {
	t.Helper()
	if observable.Chosen(v, party, name, date) != want {
		t.Errorf("Chosen(%s, %q, %q, %d) is not %v", short(v), party, name, date, want)
	}
}

func TestFindWhatIsKnown(t *testing.T) {
	for _, n := range []int{1, 2, 3, 1000} {
		v := api.Env{Fixings: fixingsOf(n), Choices: choicesOf(n)}
		for i := range n {
			f, c := v.Fixings[i], v.Choices[i]
			checkFind(t, v, f.Name, f.Date, f.Value, true)
			checkFind(t, v, f.Name, f.Date+1, "", false)
			checkFind(t, v, f.Name+"x", f.Date, "", false)
			checkFind(t, v, f.Name[:len(f.Name)-1], f.Date, "", false)
			checkChosen(t, v, c.Party, c.Name, c.Date, c.First)
			checkChosen(t, v, c.Party, c.Name, c.Date+1, false)
			checkChosen(t, v, c.Party, c.Name+"x", c.Date, false)
			checkChosen(t, v, c.Party+"x", c.Name, c.Date, false)
		}
	}
	checkFind(t, api.Env{}, "a", 1, "", false)
	checkFind(t, api.Env{}, "", 0, "", false)
	checkFind(t, api.Env{Choices: choicesOf(9)}, "A", 0, "", false)
	checkChosen(t, api.Env{}, "a", "a", 1, false)
	checkChosen(t, api.Env{}, "", "", 0, false)
	checkChosen(t, api.Env{Fixings: fixingsOf(9)}, "A", "A", 0, false)
	// Party and name are not exchanged, and neither are two names run together.
	v := api.Env{Choices: []api.Choice{choice("a", "b", 1, true), choice("ab", "c", 1, true)}}
	checkChosen(t, v, "a", "b", 1, true)
	checkChosen(t, v, "b", "a", 1, false)
	checkChosen(t, v, "a", "bc", 1, false)
}

func TestFindInWhatIsNotValid(t *testing.T) {
	v := api.Env{
		Fixings: []api.Fixing{fixing("z", 5, "1"), fixing("a", 5, "2"), fixing("z", 5, "3"), fixing("", -1, "x"), fixing("", -1, "y"), fixing("b", 1, ""), fixing("b", 1, "4"), fixing("a", 5, "5"), fixing("\xff", 1<<60, "6/6")},
		Choices: []api.Choice{choice("z", "z", 5, true), choice("a", "z", 5, false), choice("a", "z", 5, true), choice("z", "z", 5, false), choice("", "", -1, true), choice("", "", -1, false), choice("\xff", "", 1<<60, true)},
	}
	checkFind(t, v, "z", 5, "1", true)
	checkFind(t, v, "a", 5, "2", true)
	checkFind(t, v, "", -1, "x", true)
	checkFind(t, v, "b", 1, "", true)
	checkFind(t, v, "\xff", 1<<60, "6/6", true)
	checkFind(t, v, "", 0, "", false)
	checkFind(t, v, "c", 1, "", false)
	checkChosen(t, v, "z", "z", 5, true)
	checkChosen(t, v, "a", "z", 5, false)
	checkChosen(t, v, "", "", -1, true)
	checkChosen(t, v, "\xff", "", 1<<60, true)
	checkChosen(t, v, "", "", 0, false)
	long := api.Env{Fixings: make([]api.Fixing, 3000), Choices: make([]api.Choice, 3000)}
	long.Fixings[2999], long.Choices[2999] = api.Fixing{Name: "a", Date: 1, Value: "7"}, api.Choice{Party: "a", Name: "b", Date: 1, First: true}
	checkFind(t, long, "a", 1, "7", true)
	checkFind(t, long, "", 0, "", true)
	checkChosen(t, long, "a", "b", 1, true)
}

// TestFindInRandomLists has lists in any order, with many elements of the same name and date.
func TestFindInRandomLists(t *testing.T) {
	r := rand.New(rand.NewSource(2))
	for range 300 {
		var v api.Env
		for range r.Intn(60) {
			v.Fixings = append(v.Fixings, api.Fixing{Name: names[r.Intn(4)], Date: r.Intn(4), Value: rats[r.Intn(9)]})
			v.Choices = append(v.Choices, api.Choice{Party: names[r.Intn(3)], Name: names[r.Intn(3)], Date: r.Intn(3), First: r.Intn(2) == 0})
		}
		for _, name := range names[:4] {
			for date := range 4 {
				if i := slices.IndexFunc(v.Fixings, func(f api.Fixing) bool { return f.Name == name && f.Date == date }); i >= 0 {
					checkFind(t, v, name, date, v.Fixings[i].Value, true)
				} else {
					checkFind(t, v, name, date, "", false)
				}
				for _, party := range names[:3] {
					i := slices.IndexFunc(v.Choices, func(c api.Choice) bool { return c.Party == party && c.Name == name && c.Date == date })
					checkChosen(t, v, party, name, date, i >= 0 && v.Choices[i].First)
				}
			}
		}
	}
}
