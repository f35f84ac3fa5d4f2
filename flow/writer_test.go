package flow_test

import (
	"slices"
	"testing"

	"plumbline/api"
	"plumbline/fcheck"
	"plumbline/fint"
	"plumbline/fparse"
	"plumbline/state"
)

// writer makes expressions, statements and programs of the variables of `every`.
type writer struct{ *dice }

func variable(name string) api.Expr { return api.Expr{Op: api.Var, Text: name} }

func constant(digits string) api.Expr { return api.Expr{Op: api.Const, Text: digits} }

func node(op api.Op, kids ...api.Expr) api.Expr {
	return api.Expr{Op: op, Kids: slices.Clone(kids)}
}

func (w writer) anyType() api.Type {
	return pick(w.dice, api.IntType, api.FloatType, api.DoubleType)
}

func (w writer) plainVar(t api.Type) string {
	return [...][]string{api.IntType: {"i", "j"}, api.FloatType: {"f", "g"}, api.DoubleType: {"d", "e"}}[t][w.below(2)]
}

func (w writer) digits(t api.Type) string {
	if t == api.IntType {
		return pick(w.dice, "0", "1", "2", "3", "7", "100", "65536", "2147483647")
	}
	return pick(w.dice, "0.0", "0.1", "0.5", "1.0", "1.5", "3.0", "2147483647.5", "2147483648.0", "12345678901234567.8", "0.00000000000000001")
}

// array is the name of one, and how many cells it has.
func (w writer) array(t api.Type) (string, int) {
	switch t {
	case api.FloatType:
		return "af", 1
	case api.DoubleType:
		return "ad", 2
	}
	if w.coin() {
		return "one", 1
	}
	return "ai", 3
}

// index is an expression that is a cell's more often than not.
func (w writer) index(cells, deep int) api.Expr {
	switch w.below(4) {
	case 0:
		return w.expr(api.IntType, deep)
	case 1:
		return variable(w.plainVar(api.IntType))
	}
	return constant(string('0' + rune(w.below(cells))))
}

func (w writer) expr(t api.Type, deep int) api.Expr {
	if deep <= 1 || w.below(4) == 0 {
		if t != api.FloatType && w.below(3) == 0 {
			return constant(w.digits(t))
		}
		return variable(w.plainVar(t))
	}
	switch w.below(8) {
	case 0:
		name, cells := w.array(t)
		return api.Expr{Op: api.Cell, Text: name, Kids: []api.Expr{w.index(cells, deep-1)}}
	case 1:
		op := pick(w.dice, api.Neg, api.Abs, api.Sqrt)
		if t == api.IntType && op == api.Sqrt {
			op = api.Neg
		}
		return node(op, w.expr(t, deep-1))
	case 2:
		return api.Expr{Op: api.Cast, Type: t, Kids: []api.Expr{w.expr(w.anyType(), deep-1)}}
	}
	return node(pick(w.dice, api.Add, api.Sub, api.Add, api.Sub, api.Mul, api.Div), w.expr(t, deep-1), w.expr(t, deep-1))
}

// sum is a variable, perhaps negated, perhaps with a number.
func (w writer) sum() api.Expr {
	x, n := variable(w.plainVar(api.IntType)), constant(w.digits(api.IntType))
	if w.below(4) == 0 {
		return node(pick(w.dice, api.Add, api.Sub), n, x)
	}
	if w.coin() {
		x = node(api.Neg, x)
	}
	if w.coin() {
		return x
	}
	return node(pick(w.dice, api.Add, api.Sub), x, n)
}

func (w writer) truth(deep int) api.Expr {
	switch {
	case deep <= 2 || w.below(3) == 0:
		t := pick(w.dice, api.IntType, api.IntType, api.FloatType, api.DoubleType)
		return node(pick(w.dice, api.Lt, api.Le, api.Gt, api.Ge, api.Eq, api.Ne), w.expr(t, deep-1), w.expr(t, deep-1))
	case w.below(4) == 0:
		return node(api.Not, w.truth(deep-1))
	}
	return node(pick(w.dice, api.And, api.Or), w.truth(deep-1), w.truth(deep-1))
}

// assign is one of each kind: to a variable, to a cell, of a variable to a variable.
func (w writer) assign() api.Stmt {
	t := w.anyType()
	switch w.below(4) {
	case 0:
		name, cells := w.array(t)
		return api.Stmt{Do: api.Assign, Name: name, Index: []api.Expr{w.index(cells, 3)}, Value: w.expr(t, 1+w.below(3))}
	case 1:
		return api.Stmt{Do: api.Assign, Name: w.plainVar(api.IntType), Value: w.sum()}
	}
	return api.Stmt{Do: api.Assign, Name: w.plainVar(t), Value: w.expr(t, 1+w.below(4))}
}

// read is one in which Low is the lesser one, or both are alike.
func (w writer) read() api.Stmt {
	t := w.anyType()
	number := constant(w.digits(t))
	low, high := node(api.Neg, constant(w.digits(t))), number
	if w.below(3) == 0 {
		low = high
	}
	return api.Stmt{Do: api.Read, Name: w.plainVar(t), Low: low, High: high}
}

func (w writer) stmt(deep int) api.Stmt {
	kind := w.below(10)
	if deep <= 1 {
		kind = w.below(7)
	}
	switch kind {
	case 0, 1, 2, 3, 4:
		return w.assign()
	case 5, 6:
		return w.read()
	case 7:
		return api.Stmt{Do: api.While, Value: w.truth(4), Then: w.block(deep - 1)}
	}
	return api.Stmt{Do: api.If, Value: w.truth(4), Then: w.block(deep - 1), Else: w.block(deep - 1)}
}

func (w writer) block(deep int) []api.Stmt {
	var l []api.Stmt
	for range w.below(5) {
		l = append(l, w.stmt(deep))
	}
	return l
}

// program is one of the variables of `every`.
func (w writer) program(t *testing.T, body ...api.Stmt) *fcheck.Unit {
	t.Helper()
	p, e, at := fparse.Parse(every)
	if e != api.OK {
		t.Fatal(e, at)
	}
	p.Body = body
	return checked(t, p)
}

// stateOf is a state that is any, and a row of cells that fits it.
func (d *dice) stateOf(u *fcheck.Unit) (*state.State, []fint.Value) {
	s := state.Top(u)
	var cells []fint.Value
	for v, x := range u.Vars() {
		value := d.valueOf(x.Type)
		for range max(x.Cells, 1) {
			cells = append(cells, value)
		}
		// Ranges on whose ends, or between whose ends, the value is.
		other := d.valueOf(x.Type)
		if d.below(4) == 0 {
			other = value
		}
		lo, hi := keyOf(x.Type, value.Bits), keyOf(x.Type, other.Bits)
		s = s.LessFloat(v, api.FloatRange{Lo: floatAt(x.Type, min(lo, hi)), Hi: floatAt(x.Type, max(lo, hi))})
		s = s.LessInt(v, ints(min(value.Int, other.Int), max(value.Int, other.Int)))
	}
	first := firsts(u)
	for range d.below(3) {
		sum := cells[first[i]].Int - cells[first[j]].Int
		if d.coin() {
			s = s.Relate(i, false, j, true, sum+int64(d.below(3)))
		} else {
			s = s.Relate(i, true, j, false, -sum+int64(d.below(3)))
		}
	}
	return s, cells
}

// draw is a row of cells that fits a state.
func (d *dice) draw(u *fcheck.Unit, s *state.State) []fint.Value {
	var cells []fint.Value
	for v, x := range u.Vars() {
		for range max(x.Cells, 1) {
			c := fint.Value{Type: x.Type}
			if x.Type == api.IntType {
				c.Int = d.inside(s.Int(v))
			} else {
				c.Bits = d.floatIn(x.Type, s.Float(v))
			}
			cells = append(cells, c)
		}
		if x.Type == api.IntType && x.Cells == 0 {
			n := cells[len(cells)-1].Int
			s = s.LessInt(v, ints(n, n))
		}
	}
	return cells
}

// alone is a state all of whose ranges are of one number, and its cells.
func (d *dice) alone(u *fcheck.Unit) (*state.State, []fint.Value) {
	s := state.Top(u)
	var cells []fint.Value
	for v, x := range u.Vars() {
		value := d.valueOf(x.Type)
		s = s.LessInt(v, ints(value.Int, value.Int)).LessFloat(v, api.FloatRange{Lo: value.Bits, Hi: value.Bits})
		for range max(x.Cells, 1) {
			cells = append(cells, value)
		}
	}
	return s, cells
}

// What is drawn must fit, or nothing is shown by it.
func TestDraws(t *testing.T) {
	u := unit(t, every)
	d := dice(5)
	for range 500 {
		s, cells := d.stateOf(u)
		if !s.Has(cells) || !s.Has(d.draw(u, s)) {
			t.Fatal("cells that do not fit")
		}
		s, cells = d.alone(u)
		if !s.Has(cells) || !isOne(u, s) || !slices.Equal(cells, d.draw(u, s)) {
			t.Fatal("a state of one row of cells that has others")
		}
	}
}
