package observable

import "novation/api"

// An evaluation gives valid expressions their values on a day.
type evaluation struct {
	day   int
	known api.Env
}

// checkEvaluation returns the error of evaluating x, which is to be of a sort, before the evaluation begins.
func checkEvaluation(x api.Expr, s sort, day int, known api.Env) api.Errno {
	if e := Check(x); e != api.OK {
		return e
	}
	if sortOf(x) != s {
		return api.ErrKind
	}
	if e := CheckEnv(known); e != api.OK {
		return e
	}
	if !isDay(day) {
		return api.ErrArg
	}
	return api.OK
}

func (v evaluation) number(x api.Expr) (api.Rat, api.Errno) {
	switch x.Kind {
	case api.ExprConst:
		return x.Rat, api.OK
	case api.ExprFix:
		return v.fixing(x.Name, x.Date)
	case api.ExprNow:
		return v.fixing(x.Name, v.day)
	case api.ExprWhen:
		return v.chosen(x)
	}
	p, e := v.pair(x)
	if e != api.OK {
		return "", e
	}
	return operations()[x.Kind](p)
}

func (v evaluation) truth(x api.Expr) (bool, api.Errno) {
	switch x.Kind {
	case api.ExprAnd:
		return v.both(x)
	case api.ExprOr:
		return v.either(x)
	case api.ExprNot:
		return v.not(x)
	}
	p, e := v.pair(x)
	if e != api.OK {
		return false, e
	}
	return comparisons()[x.Kind](p)
}

func (v evaluation) pair(x api.Expr) (pair, api.Errno) {
	a, e := v.number(x.Sub[0])
	if e != api.OK {
		return pair{}, e
	}
	b, e := v.number(x.Sub[1])
	if e != api.OK {
		return pair{}, e
	}
	return pair{a, b}, api.OK
}

func (v evaluation) fixing(name string, date int) (api.Rat, api.Errno) {
	value, there := Find(v.known, name, date)
	if !there {
		return "", api.ErrFix
	}
	return value, api.OK
}

func (v evaluation) chosen(x api.Expr) (api.Rat, api.Errno) {
	is, e := v.truth(x.Sub[0])
	switch {
	case e != api.OK:
		return "", e
	case is:
		return v.number(x.Sub[1])
	}
	return v.number(x.Sub[2])
}

func (v evaluation) both(x api.Expr) (bool, api.Errno) {
	is, e := v.truth(x.Sub[0])
	if e != api.OK || !is {
		return false, e
	}
	return v.truth(x.Sub[1])
}

func (v evaluation) either(x api.Expr) (bool, api.Errno) {
	is, e := v.truth(x.Sub[0])
	if e != api.OK || is {
		return is, e
	}
	return v.truth(x.Sub[1])
}

func (v evaluation) not(x api.Expr) (bool, api.Errno) {
	is, e := v.truth(x.Sub[0])
	return e == api.OK && !is, e
}
