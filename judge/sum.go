package judge

import (
	"plumbline/api"
	"plumbline/conv"
)

// sumOf is an int expression as a variable (negated, if neg) and a number.
func sumOf(e api.Expr) (name string, neg bool, c int64, ok bool) {
	if e.Op != api.Add && e.Op != api.Sub {
		name, neg, ok = signed(e)
		return name, neg, 0, ok
	}
	first, second := e.Kids[0], e.Kids[1]
	if second.Op == api.Const {
		name, neg, ok = signed(first)
		return name, neg, times(e.Op, intOf(second)), ok
	}
	// Behind a number just a variable may stand, none that has a - of its own.
	return second.Text, e.Op == api.Sub, intOf(first), first.Op == api.Const && second.Op == api.Var
}

// signed is a variable, perhaps with a - ahead.
func signed(e api.Expr) (name string, neg, ok bool) {
	if e.Op == api.Neg {
		e, neg = e.Kids[0], true
	}
	return e.Text, neg, e.Op == api.Var
}

// times is c, negated, if it is taken away.
func times(op api.Op, c int64) int64 {
	if op == api.Sub {
		return -c
	}
	return c
}

func intOf(number api.Expr) int64 {
	c, _ := conv.Int(number.Text)
	return c
}
