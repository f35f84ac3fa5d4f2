package fcheck

import (
	"iter"

	"plumbline/api"
)

// partsOf is an expression and all that stands in it: Kids ahead of what has them, from the left.
func partsOf(e api.Expr) iter.Seq[api.Expr] {
	return func(yield func(api.Expr) bool) {
		goThrough(e, yield)
	}
}

// goThrough tells whether more is asked for.
func goThrough(e api.Expr, yield func(api.Expr) bool) bool {
	for _, kid := range e.Kids {
		if !goThrough(kid, yield) {
			return false
		}
	}
	return yield(e)
}

// inOrder is all statements, with their points.
func inOrder(body []api.Stmt) iter.Seq2[api.Point, api.Stmt] {
	return func(yield func(api.Point, api.Stmt) bool) {
		goOn(body, 0, yield)
	}
}

// goOn is the point behind all of a block whose first one is at; false, if no more is asked for.
func goOn(block []api.Stmt, at api.Point, yield func(api.Point, api.Stmt) bool) (api.Point, bool) {
	for _, s := range block {
		if !yield(at, s) {
			return at, false
		}
		at++
		for _, inner := range [][]api.Stmt{s.Then, s.Else} {
			var more bool
			if at, more = goOn(inner, at, yield); !more {
				return at, false
			}
		}
	}
	return at, true
}
