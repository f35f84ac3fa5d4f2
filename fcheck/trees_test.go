package fcheck_test

import (
	"slices"

	"plumbline/api"
)

func one(text string) api.Expr  { return api.Expr{Op: api.Const, Text: text} }
func name(text string) api.Expr { return api.Expr{Op: api.Var, Text: text} }

func cell(text string, index api.Expr) api.Expr {
	return api.Expr{Op: api.Cell, Text: text, Kids: []api.Expr{index}}
}

func with(op api.Op, kids ...api.Expr) api.Expr {
	return api.Expr{Op: op, Kids: slices.Clone(kids)}
}

func cast(t api.Type, kid api.Expr) api.Expr {
	return api.Expr{Op: api.Cast, Type: t, Kids: []api.Expr{kid}}
}

func assign(to string, value api.Expr) api.Stmt {
	return api.Stmt{Do: api.Assign, Name: to, Value: value}
}

func store(to string, index, value api.Expr) api.Stmt {
	return api.Stmt{Do: api.Assign, Name: to, Index: []api.Expr{index}, Value: value}
}

func read(to string, low, high api.Expr) api.Stmt {
	return api.Stmt{Do: api.Read, Name: to, Low: low, High: high}
}

func choose(value api.Expr, then, other []api.Stmt) api.Stmt {
	return api.Stmt{Do: api.If, Value: value, Then: then, Else: other}
}

func loop(value api.Expr, then ...api.Stmt) api.Stmt {
	return api.Stmt{Do: api.While, Value: value, Then: then}
}

// vars are variables of each type, plain ones and arrays.
func vars() []api.Decl {
	return []api.Decl{
		{Name: "i", Type: api.IntType}, {Name: "f", Type: api.FloatType}, {Name: "d", Type: api.DoubleType},
		{Name: "ai", Type: api.IntType, Cells: 4}, {Name: "af", Type: api.FloatType, Cells: 1}, {Name: "ad", Type: api.DoubleType, Cells: 64},
	}
}

func alike(a, b api.Expr) bool {
	return a.Op == b.Op && a.Text == b.Text && a.Type == b.Type && slices.EqualFunc(a.Kids, b.Kids, alike)
}

func alikeStmts(a, b api.Stmt) bool {
	return a.Do == b.Do && a.Name == b.Name && slices.EqualFunc(a.Index, b.Index, alike) &&
		alike(a.Value, b.Value) && alike(a.Low, b.Low) && alike(a.High, b.High) &&
		slices.EqualFunc(a.Then, b.Then, alikeStmts) && slices.EqualFunc(a.Else, b.Else, alikeStmts)
}

func alikePrograms(a, b api.Program) bool {
	return slices.Equal(a.Decls, b.Decls) && slices.EqualFunc(a.Body, b.Body, alikeStmts)
}

// flat are all statements, in the order of the text, without what stands in them.
func flat(l []api.Stmt) []api.Stmt {
	var all []api.Stmt
	for _, s := range l {
		head := s
		head.Then, head.Else = nil, nil
		all = append(all, head)
		all = append(all, flat(s.Then)...)
		all = append(all, flat(s.Else)...)
	}
	return all
}

// dice are numbers that look like chance but are always the same.
type dice uint64

func (d *dice) next() uint64 {
	*d ^= *d << 13
	*d ^= *d >> 7
	*d ^= *d << 17
	return uint64(*d)
}

func (d *dice) below(n int) int { return int(d.next() % uint64(n)) }

func pick[T any](d *dice, l ...T) T { return l[d.below(len(l))] }

// writer makes programs, in which one thing in so many is wrong (0: nothing).
type writer struct {
	*dice
	wrong int
}

func (w writer) slips() bool { return w.wrong > 0 && w.below(w.wrong) == 0 }

var anyType = []api.Type{api.NoType, api.IntType, api.FloatType, api.DoubleType}

func (w writer) variable(t api.Type, array bool) string {
	if w.slips() {
		return pick(w.dice, "zz", "i", "f", "d", "ai", "af", "ad")
	}
	text := [...]string{"", "i", "f", "d"}[t]
	if array {
		return "a" + text
	}
	return text
}

func (w writer) number(t api.Type) api.Expr {
	if w.slips() {
		return one(pick(w.dice, "2147483648", "1234567890123456789", "1.234567890123456789", "0", "0.5"))
	}
	if t == api.IntType {
		return one(pick(w.dice, "0", "1", "2147483647", "000000000000000007"))
	}
	return one(pick(w.dice, "0.0", "1.5", "12345678901234567.8", "0.00000000000000001"))
}

// expr is one of that type (NoType: a truth).
func (w writer) expr(t api.Type, deep int) api.Expr {
	if w.slips() {
		t = pick(w.dice, anyType...)
	}
	if t == api.NoType {
		return w.truth(deep)
	}
	if deep <= 1 || w.below(4) == 0 {
		return w.leaf(t)
	}
	switch w.below(5) {
	case 0:
		return cell(w.variable(t, true), w.expr(api.IntType, deep-1))
	case 1:
		op := pick(w.dice, api.Neg, api.Abs, api.Sqrt)
		if t == api.IntType && op == api.Sqrt && !w.slips() {
			op = api.Neg
		}
		return with(op, w.expr(t, deep-1))
	case 2:
		return cast(t, w.expr(pick(w.dice, anyType[1:]...), deep-1))
	}
	return with(pick(w.dice, api.Add, api.Sub, api.Mul, api.Div), w.expr(t, deep-1), w.expr(t, deep-1))
}

func (w writer) leaf(t api.Type) api.Expr {
	if t == api.FloatType || w.below(2) == 0 {
		return name(w.variable(t, false))
	}
	return w.number(t)
}

func (w writer) truth(deep int) api.Expr {
	switch {
	case deep <= 2 || w.below(3) == 0:
		t := pick(w.dice, anyType[1:]...)
		return with(pick(w.dice, api.Lt, api.Le, api.Gt, api.Ge, api.Eq, api.Ne), w.expr(t, deep-1), w.expr(t, deep-1))
	case w.below(3) == 0:
		return with(api.Not, w.expr(api.NoType, deep-1))
	}
	return with(pick(w.dice, api.And, api.Or), w.expr(api.NoType, deep-1), w.expr(api.NoType, deep-1))
}

func (w writer) stmt(deep int) api.Stmt {
	t := pick(w.dice, anyType[1:]...)
	kind := w.below(6)
	if deep <= 1 {
		kind = w.below(4)
	}
	switch kind {
	case 0, 1:
		return assign(w.variable(t, false), w.expr(t, 4))
	case 2:
		return store(w.variable(t, true), w.expr(api.IntType, 3), w.expr(t, 4))
	case 3:
		low, high := with(api.Neg, w.number(t)), w.number(t)
		if w.below(3) == 0 {
			high = with(api.Neg, one(low.Kids[0].Text))
		}
		if w.slips() {
			low, high = high, low
		}
		return read(w.variable(t, false), low, high)
	case 4:
		return choose(w.expr(api.NoType, 4), w.block(deep-1), w.block(deep-1))
	}
	return loop(w.expr(api.NoType, 4), w.block(deep-1)...)
}

func (w writer) block(deep int) []api.Stmt {
	var l []api.Stmt
	for range w.below(4) {
		l = append(l, w.stmt(deep))
	}
	return l
}

func (w writer) program() api.Program {
	return api.Program{Decls: vars(), Body: w.block(4)}
}
