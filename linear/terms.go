package linear

import (
	"iter"
	"math"

	"plumbline/api"
)

func whole() Form {
	return Form{Whole: true}
}

// isBounded tells whether a form is right, and tells something.
func isBounded(a Form) bool {
	return Right(a) && !a.Whole
}

func rightTerms(l []Term) bool {
	if len(l) > api.MaxTerms {
		return false
	}
	behind := -1
	for _, t := range l {
		if t.Var <= behind || !hasNumbers(t.Coef) || isZero(t.Coef) {
			return false
		}
		behind = t.Var
	}
	return true
}

func isZero(a api.FloatRange) bool {
	return a == api.FloatRange{}
}

// reckoned is what by makes of the ranges of both, variable by variable; Whole, if it makes none of one.
func reckoned(a, b Form, by func(x, y api.FloatRange) (api.FloatRange, bool)) Form {
	if !isBounded(a) || !isBounded(b) {
		return whole()
	}
	first, ok := by(a.Const, b.Const)
	if !ok {
		return whole()
	}
	r := Form{Const: first}
	for n, both := range together(a.Terms, b.Terms) {
		coef, ok := by(both[0], both[1])
		if !ok {
			return whole()
		}
		if !isZero(coef) {
			r.Terms = append(r.Terms, Term{Var: n, Coef: coef})
		}
	}
	if len(r.Terms) > api.MaxTerms {
		return whole()
	}
	return r
}

// together goes through the variables of both, rising, with the Coefs in both: 0 to 0 where one has none.
func together(a, b []Term) iter.Seq2[int, [2]api.FloatRange] {
	return func(yield func(int, [2]api.FloatRange) bool) {
		a, b := a, b
		for len(a) > 0 || len(b) > 0 {
			n := min(firstVar(a), firstVar(b))
			var both [2]api.FloatRange
			both[0], a = taken(a, n)
			both[1], b = taken(b, n)
			if !yield(n, both) {
				return
			}
		}
	}
}

// firstVar is the first variable of terms; of none one that no other one is behind.
func firstVar(l []Term) int {
	if len(l) == 0 {
		return math.MaxInt
	}
	return l[0].Var
}

// taken is the Coef of n, if it is the first one, and the terms behind it.
func taken(l []Term, n int) (api.FloatRange, []Term) {
	if len(l) == 0 || l[0].Var != n {
		return api.FloatRange{}, l
	}
	return l[0].Coef, l[1:]
}

// allRight tells whether the terms' variables all have right ranges.
func allRight(l []Term, vars []api.FloatRange) bool {
	for _, t := range l {
		if t.Var >= len(vars) || !isRange(vars[t.Var]) {
			return false
		}
	}
	return true
}

func someEmpty(l []Term, vars []api.FloatRange) bool {
	for _, t := range l {
		if vars[t.Var].Empty {
			return true
		}
	}
	return false
}
