package fparse_test

import (
	"slices"

	"plumbline/api"
)

// Trees, made by hand and by dice; nothing here asks the package that is tested.

func one(text string) api.Expr  { return api.Expr{Op: api.Const, Text: text} }
func name(text string) api.Expr { return api.Expr{Op: api.Var, Text: text} }

func cell(text string, index api.Expr) api.Expr {
	return api.Expr{Op: api.Cell, Text: text, Kids: []api.Expr{index}}
}

func with(op api.Op, kids ...api.Expr) api.Expr {
	return api.Expr{Op: op, Kids: slices.Clone(kids)}
}

func cast(t api.Type, kid api.Expr) api.Expr {
	return api.Expr{Op: api.Cast, Type: t, Kids: []api.Expr{kid}}
}

func assign(to string, value api.Expr) api.Stmt {
	return api.Stmt{Do: api.Assign, Name: to, Value: value}
}

func store(to string, index, value api.Expr) api.Stmt {
	return api.Stmt{Do: api.Assign, Name: to, Index: []api.Expr{index}, Value: value}
}

func read(to string, low, high api.Expr) api.Stmt {
	return api.Stmt{Do: api.Read, Name: to, Low: low, High: high}
}

func choose(value api.Expr, then, other []api.Stmt) api.Stmt {
	return api.Stmt{Do: api.If, Value: value, Then: then, Else: other}
}

func loop(value api.Expr, then ...api.Stmt) api.Stmt {
	return api.Stmt{Do: api.While, Value: value, Then: then}
}

func body(l ...api.Stmt) api.Program { return api.Program{Body: l} }

func list(l ...api.Stmt) []api.Stmt { return l }

// between are the operators between two, with their strength.
var between = []struct {
	op       api.Op
	sign     string
	strength int
}{
	{api.Or, "||", 1}, {api.And, "&&", 2},
	{api.Eq, "==", 3}, {api.Ne, "!=", 3}, {api.Lt, "<", 3}, {api.Le, "<=", 3}, {api.Gt, ">", 3}, {api.Ge, ">=", 3},
	{api.Add, "+", 4}, {api.Sub, "-", 4}, {api.Mul, "*", 5}, {api.Div, "/", 5},
}

// alike tells whether two expressions are the same tree.
func alike(a, b api.Expr) bool {
	return a.Op == b.Op && a.Text == b.Text && a.Type == b.Type && slices.EqualFunc(a.Kids, b.Kids, alike)
}

func alikeStmts(a, b api.Stmt) bool {
	return a.Do == b.Do && a.Name == b.Name && slices.EqualFunc(a.Index, b.Index, alike) &&
		alike(a.Value, b.Value) && alike(a.Low, b.Low) && alike(a.High, b.High) &&
		slices.EqualFunc(a.Then, b.Then, alikeStmts) && slices.EqualFunc(a.Else, b.Else, alikeStmts)
}

func alikePrograms(a, b api.Program) bool {
	return slices.Equal(a.Decls, b.Decls) && slices.EqualFunc(a.Body, b.Body, alikeStmts)
}

// count is how many statements a list has, with those within.
func count(l []api.Stmt) int {
	n := 0
	for _, s := range l {
		n += 1 + count(s.Then) + count(s.Else)
	}
	return n
}

// dice are numbers that look like chance but are always the same.
type dice uint64

func (d *dice) next() uint64 {
	*d ^= *d << 13
	*d ^= *d >> 7
	*d ^= *d << 17
	return uint64(*d)
}

func (d *dice) below(n int) int { return int(d.next() % uint64(n)) }

func pick[T any](d *dice, l ...T) T { return l[d.below(len(l))] }

func (d *dice) name() string {
	return pick(d, "x", "y", "i", "a", "b1", "c_", "intx", "reads", "If", "abcdefghijklmnop")
}

func (d *dice) number() string {
	return pick(d, "0", "1", "42", "007", "1.5", "0.0", "00.10", "123456789012345678901234567890", "3.14159")
}

// expr is an expression that is at most so deep.
func (d *dice) expr(deep int) api.Expr {
	if deep <= 1 || d.below(6) == 0 {
		return pick(d, one(d.number()), name(d.name()))
	}
	switch d.below(10) {
	case 0:
		return cell(d.name(), d.expr(deep-1))
	case 1:
		return with(pick(d, api.Abs, api.Sqrt), d.expr(deep-1))
	case 2:
		return cast(pick(d, api.IntType, api.FloatType, api.DoubleType), d.expr(deep-1))
	case 3, 4:
		return with(pick(d, api.Neg, api.Not), d.expr(deep-1))
	}
	return with(between[d.below(len(between))].op, d.expr(deep-1), d.expr(deep-1))
}

func (d *dice) bound() api.Expr {
	if d.below(2) == 0 {
		return with(api.Neg, one(d.number()))
	}
	return one(d.number())
}

func (d *dice) stmt(deep, most int) api.Stmt {
	kind := d.below(6)
	if deep <= 1 {
		kind = d.below(4)
	}
	switch kind {
	case 0, 1:
		return assign(d.name(), d.expr(most))
	case 2:
		return store(d.name(), d.expr(most), d.expr(most))
	case 3:
		return read(d.name(), d.bound(), d.bound())
	case 4:
		return choose(d.expr(most), d.block(deep-1, most), d.block(deep-1, most))
	}
	return loop(d.expr(most), d.block(deep-1, most)...)
}

func (d *dice) block(deep, most int) []api.Stmt {
	var l []api.Stmt
	for range d.below(4) {
		l = append(l, d.stmt(deep, most))
	}
	return l
}

// program has blocks of at most that depth, and expressions of at most the other one.
func (d *dice) program(deep, most int) api.Program {
	var p api.Program
	for range d.below(4) {
		p.Decls = append(p.Decls, api.Decl{
			Name:  d.name(),
			Type:  pick(d, api.IntType, api.FloatType, api.DoubleType),
			Cells: pick(d, 0, 0, 1, 2, 63, 64),
		})
	}
	p.Body = d.block(deep, most)
	return p
}
