package fint_test

import (
	"slices"

	"plumbline/api"
	"plumbline/fint"
)

// writer makes programs that are well, and scripts for them.
type writer struct{ *dice }

// vars are variables of each type, plain ones and arrays.
func vars() []api.Decl {
	return []api.Decl{
		{Name: "i", Type: api.IntType}, {Name: "f", Type: api.FloatType}, {Name: "ad", Type: api.DoubleType, Cells: 2}, {Name: "d", Type: api.DoubleType},
		{Name: "ai", Type: api.IntType, Cells: 4}, {Name: "j", Type: api.IntType}, {Name: "af", Type: api.FloatType, Cells: 1},
	}
}

func node(op api.Op, kids ...api.Expr) api.Expr {
	return api.Expr{Op: op, Kids: slices.Clone(kids)}
}

func (w writer) plainVar(t api.Type) string {
	return [...][]string{api.IntType: {"i", "j"}, api.FloatType: {"f", "f"}, api.DoubleType: {"d", "d"}}[t][w.below(2)]
}

func arrayOf(t api.Type) string {
	return [...]string{api.IntType: "ai", api.FloatType: "af", api.DoubleType: "ad"}[t]
}

func (w writer) digits(t api.Type) string {
	if t == api.IntType {
		return pick(w.dice, "0", "1", "2", "3", "7", "100", "65536", "2147483647")
	}
	return pick(w.dice, "0.0", "0.1", "0.5", "1.0", "1.5", "3.0", "2147483647.5", "2147483648.0", "12345678901234567.8", "0.00000000000000001")
}

func (w writer) anyType() api.Type {
	return pick(w.dice, api.IntType, api.FloatType, api.DoubleType)
}

// index is an expression that is a cell's more often than not.
func (w writer) index(t api.Type, deep int) api.Expr {
	if w.below(3) == 0 {
		return w.expr(api.IntType, deep)
	}
	top := [...]int{api.IntType: 4, api.FloatType: 1, api.DoubleType: 2}[t]
	return api.Expr{Op: api.Const, Text: string('0' + rune(w.below(top)))}
}

func (w writer) expr(t api.Type, deep int) api.Expr {
	if deep <= 1 || w.below(4) == 0 {
		if t != api.FloatType && w.below(2) == 0 {
			return api.Expr{Op: api.Const, Text: w.digits(t)}
		}
		return api.Expr{Op: api.Var, Text: w.plainVar(t)}
	}
	switch w.below(6) {
	case 0:
		return api.Expr{Op: api.Cell, Text: arrayOf(t), Kids: []api.Expr{w.index(t, deep-1)}}
	case 1:
		op := pick(w.dice, api.Neg, api.Abs, api.Sqrt)
		if t == api.IntType && op == api.Sqrt {
			op = api.Neg
		}
		return node(op, w.expr(t, deep-1))
	case 2:
		return api.Expr{Op: api.Cast, Type: t, Kids: []api.Expr{w.expr(w.anyType(), deep-1)}}
	}
	return node(pick(w.dice, api.Add, api.Sub, api.Mul, api.Div), w.expr(t, deep-1), w.expr(t, deep-1))
}

func (w writer) truth(deep int) api.Expr {
	switch {
	case deep <= 2 || w.below(3) == 0:
		t := w.anyType()
		return node(pick(w.dice, api.Lt, api.Le, api.Gt, api.Ge, api.Eq, api.Ne), w.expr(t, deep-1), w.expr(t, deep-1))
	case w.below(3) == 0:
		return node(api.Not, w.truth(deep-1))
	}
	return node(pick(w.dice, api.And, api.Or), w.truth(deep-1), w.truth(deep-1))
}

// read is one in which Low is the lesser one.
func (w writer) read(t api.Type) api.Stmt {
	number := func() api.Expr { return api.Expr{Op: api.Const, Text: w.digits(t)} }
	low, high := node(api.Neg, number()), number()
	if w.below(4) == 0 {
		low = high
	}
	return api.Stmt{Do: api.Read, Name: w.plainVar(t), Low: low, High: high}
}

// counted is a loop that ends more often than not.
func (w writer) counted(deep int) api.Stmt {
	j := api.Expr{Op: api.Var, Text: "j"}
	body := append(w.block(deep), api.Stmt{Do: api.Assign, Name: "j", Value: node(api.Add, j, api.Expr{Op: api.Const, Text: "1"})})
	return api.Stmt{Do: api.While, Value: node(api.Lt, j, api.Expr{Op: api.Const, Text: pick(w.dice, "2", "5", "9")}), Then: body}
}

func (w writer) stmt(deep int) api.Stmt {
	t := w.anyType()
	kind := w.below(9)
	if deep <= 1 {
		kind = w.below(6)
	}
	switch kind {
	case 0, 1, 2:
		return api.Stmt{Do: api.Assign, Name: w.plainVar(t), Value: w.expr(t, 3)}
	case 3:
		return api.Stmt{Do: api.Assign, Name: arrayOf(t), Index: []api.Expr{w.index(t, 3)}, Value: w.expr(t, 3)}
	case 4, 5:
		return w.read(t)
	case 6:
		return api.Stmt{Do: api.If, Value: w.truth(4), Then: w.block(deep - 1), Else: w.block(deep - 1)}
	case 7:
		return api.Stmt{Do: api.While, Value: w.truth(4), Then: w.block(deep - 1)}
	}
	return w.counted(deep - 1)
}

func (w writer) block(deep int) []api.Stmt {
	var l []api.Stmt
	for range w.below(4) {
		l = append(l, w.stmt(deep))
	}
	return l
}

func (w writer) program() api.Program {
	body := w.block(4)
	// Not all 0: else a trap would end nearly all of them at once.
	for _, t := range []api.Type{api.FloatType, api.DoubleType, api.IntType} {
		if w.below(3) > 0 {
			body = append([]api.Stmt{w.read(t)}, body...)
		}
	}
	return api.Program{Decls: vars(), Body: body}
}

// value is one that a Read of its type may take, or not.
func (w writer) value(t api.Type) fint.Value {
	if w.below(40) == 0 {
		t = pick(w.dice, api.NoType, api.IntType, api.FloatType, api.DoubleType)
	}
	switch t {
	case api.IntType:
		return whole(pick[int64](w.dice, 0, 0, 0, -1, 1, 2, api.MaxInt, -api.MaxInt))
	case api.FloatType:
		return single(pick[float32](w.dice, 0, 0, 0, 0.1, -0.1, 1e-17, -1, 1.5))
	case api.DoubleType:
		return double(pick(w.dice, 0, 0, 0, 0.1, -0.1, 1e-17, -1, 1.5))
	}
	return fint.Value{Type: t, Int: int64(w.below(2)), Bits: uint64(w.below(2))}
}

// script has values for what a run comes to, as far as it is come to in the order of the text.
func (w writer) script(p api.Program) []fint.Value {
	types := map[string]api.Type{}
	for _, d := range p.Decls {
		types[d.Name] = d.Type
	}
	var l []fint.Value
	var walk func(block []api.Stmt)
	walk = func(block []api.Stmt) {
		for _, s := range block {
			if s.Do == api.Read {
				l = append(l, w.value(types[s.Name]))
			}
			walk(s.Then)
			walk(s.Else)
		}
	}
	walk(p.Body)
	return l
}
