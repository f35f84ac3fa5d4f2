package fparse

import "plumbline/api"

// expression is one whose operators between two are at least that strong, as far as they do not stand in ( ).
func (p *parser) expression(level int) api.Expr {
	left := p.signed()
	for {
		o := operatorOf(p.next().Text)
		if o.op == api.NoOp || o.level < level {
			return left
		}
		p.want(o.text)
		left = over(o.op, left, p.expression(o.level+1))
	}
}

func (p *parser) signed() api.Expr {
	switch {
	case p.skip("-"):
		return over(api.Neg, p.signed())
	case p.skip("!"):
		return over(api.Not, p.signed())
	}
	return p.strongest()
}

func (p *parser) strongest() api.Expr {
	if t := typeOf(p.next().Text); t != api.NoType {
		p.take(api.LexWord)
		return api.Expr{Op: api.Cast, Type: t, Kids: []api.Expr{p.inner()}}
	}
	switch {
	case p.next().Kind == api.LexName:
		return p.variable()
	case p.skip("sqrt"):
		return over(api.Sqrt, p.inner())
	case p.skip("abs"):
		return over(api.Abs, p.inner())
	case p.next().Text == "(":
		return p.inner()
	}
	return p.number()
}

func (p *parser) variable() api.Expr {
	name := p.take(api.LexName)
	if !p.skip("[") {
		return api.Expr{Op: api.Var, Text: name}
	}
	index := p.expression(weakest)
	p.want("]")
	return api.Expr{Op: api.Cell, Text: name, Kids: []api.Expr{index}}
}

// inner is what stands in ( ) within an expression, be they a call's or not. They are counted here, since the tree does not show all of them.
func (p *parser) inner() api.Expr {
	p.open++
	p.deepest = max(p.deepest, p.open)
	e := p.enclosed()
	p.open--
	return e
}

func (p *parser) number() api.Expr {
	return api.Expr{Op: api.Const, Text: p.take(api.LexInt, api.LexReal)}
}

func over(op api.Op, kids ...api.Expr) api.Expr {
	return api.Expr{Op: op, Kids: kids}
}
