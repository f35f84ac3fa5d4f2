package solve_test

import (
	"slices"

	"plumbline/api"
)

// writer makes programs that are well: ifs, loops, arrays and Reads in one another.
type writer struct{ *dice }

func declared() []api.Decl {
	return []api.Decl{
		{Name: "i", Type: api.IntType}, {Name: "f", Type: api.FloatType}, {Name: "ad", Type: api.DoubleType, Cells: 2}, {Name: "d", Type: api.DoubleType}, {Name: "k", Type: api.IntType},
		{Name: "ai", Type: api.IntType, Cells: 4}, {Name: "j", Type: api.IntType}, {Name: "af", Type: api.FloatType, Cells: 1}, {Name: "e", Type: api.DoubleType},
	}
}

func variable(name string) api.Expr { return api.Expr{Op: api.Var, Text: name} }

func constant(digits string) api.Expr { return api.Expr{Op: api.Const, Text: digits} }

func node(op api.Op, kids ...api.Expr) api.Expr {
	return api.Expr{Op: op, Kids: slices.Clone(kids)}
}

func assign(name string, value api.Expr) api.Stmt {
	return api.Stmt{Do: api.Assign, Name: name, Value: value}
}

func (w writer) anyType() api.Type {
	return pick(w.dice, api.IntType, api.IntType, api.FloatType, api.DoubleType)
}

func (w writer) plainVar(t api.Type) string {
	return [...][]string{api.IntType: {"i", "j", "k"}, api.FloatType: {"f", "f", "f"}, api.DoubleType: {"d", "e", "d"}}[t][w.below(3)]
}

func arrayOf(t api.Type) (string, int) {
	switch t {
	case api.FloatType:
		return "af", 1
	case api.DoubleType:
		return "ad", 2
	}
	return "ai", 4
}

func (w writer) digits(t api.Type) string {
	if t == api.IntType {
		return pick(w.dice, "0", "1", "2", "3", "7", "10", "100", "65536", "2147483647")
	}
	return pick(w.dice, "0.0", "0.1", "0.5", "1.0", "1.5", "3.0", "10.0", "2147483648.0", "12345678901234567.8", "0.00000000000000001")
}

// index is an expression that is a cell's more often than not.
func (w writer) index(cells, deep int) api.Expr {
	switch w.below(6) {
	case 0:
		return w.expr(api.IntType, deep)
	case 1:
		return variable(w.plainVar(api.IntType))
	}
	return constant(string('0' + rune(w.below(cells))))
}

func (w writer) expr(t api.Type, deep int) api.Expr {
	if deep <= 1 || w.below(4) == 0 {
		if t != api.FloatType && w.below(2) == 0 {
			return constant(w.digits(t))
		}
		return variable(w.plainVar(t))
	}
	switch w.below(9) {
	case 0:
		name, cells := arrayOf(t)
		return api.Expr{Op: api.Cell, Text: name, Kids: []api.Expr{w.index(cells, deep-1)}}
	case 1:
		op := pick(w.dice, api.Neg, api.Abs, api.Sqrt)
		if t == api.IntType && op == api.Sqrt {
			op = api.Neg
		}
		return node(op, w.expr(t, deep-1))
	case 2:
		return api.Expr{Op: api.Cast, Type: t, Kids: []api.Expr{w.expr(w.anyType(), deep-1)}}
	}
	return node(pick(w.dice, api.Add, api.Sub, api.Add, api.Sub, api.Mul, api.Div), w.expr(t, deep-1), w.expr(t, deep-1))
}

// step is a variable moved a little: what loops do.
func (w writer) step() api.Stmt {
	from, to := w.plainVar(api.IntType), w.plainVar(api.IntType)
	if w.below(3) > 0 {
		from = to
	}
	return assign(to, node(pick(w.dice, api.Add, api.Sub), variable(from), constant(pick(w.dice, "1", "1", "2", "0"))))
}

func (w writer) truth(deep int) api.Expr {
	switch {
	case w.below(3) == 0:
		return node(pick(w.dice, api.Lt, api.Le, api.Gt, api.Ge, api.Eq, api.Ne), variable(w.plainVar(api.IntType)), pick(w.dice, variable(w.plainVar(api.IntType)), constant(w.digits(api.IntType))))
	case deep <= 2 || w.below(3) == 0:
		t := w.anyType()
		return node(pick(w.dice, api.Lt, api.Le, api.Gt, api.Ge, api.Eq, api.Ne), w.expr(t, deep-1), w.expr(t, deep-1))
	case w.below(4) == 0:
		return node(api.Not, w.truth(deep-1))
	}
	return node(pick(w.dice, api.And, api.Or), w.truth(deep-1), w.truth(deep-1))
}

// read is one in which Low is the lesser one, or both are alike.
func (w writer) read(t api.Type) api.Stmt {
	low, high := node(api.Neg, constant(w.digits(t))), constant(w.digits(t))
	if w.below(4) == 0 {
		low = high
	}
	return api.Stmt{Do: api.Read, Name: w.plainVar(t), Low: low, High: high}
}

// counted is a loop that ends more often than not.
func (w writer) counted(deep int) api.Stmt {
	name := w.plainVar(api.IntType)
	x := variable(name)
	up, op, to := node(api.Add, x, constant("1")), api.Lt, constant(pick(w.dice, "2", "5", "9"))
	if w.coin() {
		up, op, to = node(api.Sub, x, constant(pick(w.dice, "1", "2"))), api.Gt, node(api.Sub, constant("0"), constant(pick(w.dice, "2", "5")))
	}
	return api.Stmt{Do: api.While, Value: node(op, x, to), Then: append(w.block(deep), assign(name, up))}
}

func (w writer) stmt(deep int) api.Stmt {
	t := w.anyType()
	kind := w.below(11)
	if deep <= 1 {
		kind = w.below(7)
	}
	switch kind {
	case 0, 1:
		return assign(w.plainVar(t), w.expr(t, 1+w.below(3)))
	case 2, 3:
		return w.step()
	case 4:
		name, cells := arrayOf(t)
		s := assign(name, w.expr(t, 1+w.below(3)))
		s.Index = []api.Expr{w.index(cells, 2)}
		return s
	case 5, 6:
		return w.read(t)
	case 7, 8:
		return api.Stmt{Do: api.If, Value: w.truth(3), Then: w.block(deep - 1), Else: w.block(deep - 1)}
	case 9:
		return api.Stmt{Do: api.While, Value: w.truth(3), Then: w.block(deep - 1)}
	}
	return w.counted(deep - 1)
}

func (w writer) block(deep int) []api.Stmt {
	var l []api.Stmt
	for range w.below(5) {
		l = append(l, w.stmt(deep))
	}
	return l
}

func (w writer) program() api.Program {
	var body []api.Stmt
	// Not all 0: else a trap would end nearly all of them at once.
	for _, t := range []api.Type{api.FloatType, api.DoubleType, api.IntType} {
		if w.below(3) > 0 {
			body = append(body, w.read(t))
		}
	}
	return api.Program{Decls: declared(), Body: append(body, w.block(4)...)}
}

// straight is a program of Assigns and Reads of one value each, without an array.
func (w writer) straight() api.Program {
	p := api.Program{Decls: slices.DeleteFunc(declared(), func(d api.Decl) bool { return d.Cells > 0 })}
	for range w.below(9) {
		t := w.anyType()
		if w.below(3) == 0 {
			s := w.read(t)
			if w.coin() {
				s.High = s.Low
			} else {
				s.Low = s.High
			}
			p.Body = append(p.Body, s)
			continue
		}
		p.Body = append(p.Body, assign(w.plainVar(t), withoutCells(w.expr(t, 1+w.below(4)))))
	}
	return p
}

// withoutCells has, in the place of each Cell, a variable of its type.
func withoutCells(e api.Expr) api.Expr {
	if e.Op == api.Cell {
		return variable(map[string]string{"ai": "i", "af": "f", "ad": "d"}[e.Text])
	}
	kids := e.Kids
	e.Kids = nil
	for _, kid := range kids {
		e.Kids = append(e.Kids, withoutCells(kid))
	}
	return e
}

// options are any that may be.
func (w writer) options() api.Options {
	o := api.Options{Delay: pick(w.dice, 0, 0, 1, 2, 5, 100), Budget: pick(w.dice, 0, 1, 7, 50, 300, 2000)}
	for range w.below(4) {
		o.Thresholds = append(o.Thresholds, pick[int64](w.dice, -1, 0, 1, 5, 9, 10, 100, 1<<31, -1<<40, api.MaxInt, api.MinInt))
	}
	return o
}
