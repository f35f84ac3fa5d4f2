package fparse

import (
	"plumbline/api"
	"plumbline/flex"
)

// ruler counts what a program has, and gives up where it is not right: at once, since a tree that has itself inside has no end.
type ruler struct {
	points      int
	expressions int
}

// measure is how many points a program has, and whether it is right.
func measure(p api.Program) (int, bool) {
	var r ruler
	if f := faultOf(func() { r.program(p) }); f.errno != api.OK {
		return 0, false
	}
	return r.points, true
}

func must(holds bool) {
	if !holds {
		panic(fault{errno: api.ErrForm})
	}
}

func (r *ruler) program(p api.Program) {
	must(len(p.Decls) <= api.MaxVars)
	for _, d := range p.Decls {
		must(flex.IsName(d.Name))
		must(wordOf(d.Type) != "")
		must(d.Cells >= 0 && d.Cells <= api.MaxCells)
	}
	r.block(p.Body, 1)
}

func (r *ruler) block(l []api.Stmt, deep int) {
	must(deep <= api.MaxDeep)
	for _, s := range l {
		r.points++
		must(r.points <= api.MaxPoints)
		r.statement(s, deep)
	}
}

// statement takes out of s what its kind has: nothing may be left.
func (r *ruler) statement(s api.Stmt, deep int) {
	switch s.Do {
	case api.Assign:
		must(flex.IsName(s.Name) && len(s.Index) <= 1)
		r.all(s.Index, 1)
		r.expression(s.Value, 1)
		s.Name, s.Index, s.Value = "", nil, api.Expr{}
	case api.Read:
		must(flex.IsName(s.Name))
		r.bound(s.Low)
		r.bound(s.High)
		s.Name, s.Low, s.High = "", api.Expr{}, api.Expr{}
	case api.If:
		r.expression(s.Value, 1)
		r.block(s.Then, deep+1)
		r.block(s.Else, deep+1)
		s.Value, s.Then, s.Else = api.Expr{}, nil, nil
	case api.While:
		r.expression(s.Value, 1)
		r.block(s.Then, deep+1)
		s.Value, s.Then = api.Expr{}, nil
	default:
		must(false)
	}
	must(s.Name == "" && len(s.Index) == 0)
	must(isNone(s.Value) && isNone(s.Low) && isNone(s.High))
	must(len(s.Then) == 0 && len(s.Else) == 0)
}

func isNone(e api.Expr) bool {
	return e.Op == api.NoOp && isBare(e) && len(e.Kids) == 0
}

// isBare tells whether e has neither a text nor a type.
func isBare(e api.Expr) bool {
	return e.Text == "" && e.Type == api.NoType
}

func (r *ruler) bound(e api.Expr) {
	r.expression(e, 1)
	if e.Op == api.Neg {
		e = e.Kids[0]
	}
	must(e.Op == api.Const)
}

func (r *ruler) all(l []api.Expr, deep int) {
	for _, e := range l {
		r.expression(e, deep)
	}
}

func (r *ruler) expression(e api.Expr, deep int) {
	r.expressions++
	must(r.expressions <= api.MaxTokens && deep <= api.MaxDeep)
	kids := 1
	switch e.Op {
	case api.Const:
		must(isNumber(e.Text) && e.Type == api.NoType)
		kids = 0
	case api.Var:
		must(flex.IsName(e.Text) && e.Type == api.NoType)
		kids = 0
	case api.Cell:
		must(flex.IsName(e.Text) && e.Type == api.NoType)
	case api.Cast:
		must(e.Text == "" && wordOf(e.Type) != "")
	case api.Neg, api.Not, api.Abs, api.Sqrt:
		must(isBare(e))
	default:
		must(operatorFor(e.Op).text != "" && isBare(e))
		kids = 2
	}
	must(len(e.Kids) == kids)
	r.all(e.Kids, deep+1)
}

// isNumber tells whether flex takes a text, from end to end, as one number.
func isNumber(s string) bool {
	l, e, _ := flex.Scan(s)
	if e != api.OK || len(l) != 1 || l[0].Text != s {
		return false
	}
	return l[0].Kind == api.LexInt || l[0].Kind == api.LexReal
}
