package fparse

import (
	"strconv"

	"plumbline/api"
)

// parser makes a program of its tokens.
type parser struct {
	tokens
	open    int // ( ) of an expression around what comes next
	deepest int // the most that open has been
}

// parse is the program that tokens say. That it is too great is told last, since a wrong token behind what is too great goes ahead of it.
func parse(list []api.Lex, end int) api.Program {
	p := parser{tokens: tokensOf(list, end)}
	program := p.program()
	if p.deepest > api.MaxDeep || !Right(program) {
		panic(fault{errno: api.ErrLimit})
	}
	return program
}

func (p *parser) program() api.Program {
	var program api.Program
	for typeOf(p.next().Text) != api.NoType {
		program.Decls = append(program.Decls, p.declaration())
	}
	for !p.ended() {
		program.Body = append(program.Body, p.statement())
	}
	return program
}

func (p *parser) declaration() api.Decl {
	d := api.Decl{Type: typeOf(p.take(api.LexWord)), Name: p.take(api.LexName)}
	if p.skip("[") {
		d.Cells = cellsOf(p.take(api.LexInt))
		p.want("]")
	}
	p.want(";")
	return d
}

// cellsOf is the number that digits say; of one that no array may have, one that no right program has: 0 would be no array.
func cellsOf(digits string) int {
	n, err := strconv.Atoi(digits)
	if err != nil || n < 1 {
		return api.MaxCells + 1
	}
	return n
}

func (p *parser) statement() api.Stmt {
	switch {
	case p.skip("read"):
		return p.read()
	case p.skip("if"):
		return p.choice()
	case p.skip("while"):
		return api.Stmt{Do: api.While, Value: p.enclosed(), Then: p.block()}
	}
	return p.assign()
}

func (p *parser) assign() api.Stmt {
	s := api.Stmt{Do: api.Assign, Name: p.take(api.LexName)}
	if p.skip("[") {
		s.Index = []api.Expr{p.expression(weakest)}
		p.want("]")
	}
	p.want("=")
	s.Value = p.expression(weakest)
	p.want(";")
	return s
}

func (p *parser) read() api.Stmt {
	s := api.Stmt{Do: api.Read, Name: p.take(api.LexName)}
	p.want("in")
	p.want("[")
	s.Low = p.bound()
	p.want(",")
	s.High = p.bound()
	p.want("]")
	p.want(";")
	return s
}

func (p *parser) bound() api.Expr {
	if p.skip("-") {
		return over(api.Neg, p.number())
	}
	return p.number()
}

func (p *parser) choice() api.Stmt {
	s := api.Stmt{Do: api.If, Value: p.enclosed(), Then: p.block()}
	if p.skip("else") {
		s.Else = p.block()
	}
	return s
}

func (p *parser) enclosed() api.Expr {
	p.want("(")
	e := p.expression(weakest)
	p.want(")")
	return e
}

func (p *parser) block() []api.Stmt {
	var l []api.Stmt
	p.want("{")
	for !p.skip("}") {
		l = append(l, p.statement())
	}
	return l
}
