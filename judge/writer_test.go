package judge_test

import (
	"slices"
	"testing"

	"plumbline/api"
	"plumbline/fcheck"
	"plumbline/fint"
	"plumbline/state"
)

// writer makes expressions and conditions of the variables of `every`.
type writer struct{ *dice }

func formatOf(t api.Type) api.Format {
	if t == api.FloatType {
		return api.Single
	}
	return api.Double
}

func (w writer) plainVar(t api.Type) string {
	return [...][]string{api.IntType: {"i", "j"}, api.FloatType: {"f", "g"}, api.DoubleType: {"d", "e"}}[t][w.below(2)]
}

func (w writer) number(t api.Type) api.Expr {
	if t == api.IntType {
		return constant(pick(w.dice, "0", "1", "2", "3", "7", "100", "65536", "2147483647"))
	}
	return constant(pick(w.dice, "0.0", "0.1", "0.5", "1.0", "1.5", "3.0", "2147483647.5", "2147483648.0", "12345678901234567.8", "0.00000000000000001"))
}

func (w writer) cell(t api.Type, deep int) api.Expr {
	name := [...]string{api.IntType: "ai", api.FloatType: "af", api.DoubleType: "ad"}[t]
	top := [...]int{api.IntType: 3, api.FloatType: 1, api.DoubleType: 2}[t]
	index := constant(string('0' + rune(w.below(top))))
	if w.coin() {
		index = w.expr(api.IntType, deep)
	}
	return api.Expr{Op: api.Cell, Text: name, Kids: []api.Expr{index}}
}

func (w writer) expr(t api.Type, deep int) api.Expr {
	if deep <= 1 || w.below(4) == 0 {
		if t != api.FloatType && w.below(3) == 0 {
			return w.number(t)
		}
		return variable(w.plainVar(t))
	}
	switch w.below(8) {
	case 0:
		return w.cell(t, deep-1)
	case 1:
		op := pick(w.dice, api.Neg, api.Abs, api.Sqrt)
		if t == api.IntType && op == api.Sqrt {
			op = api.Neg
		}
		return node(op, w.expr(t, deep-1))
	case 2:
		return api.Expr{Op: api.Cast, Type: t, Kids: []api.Expr{w.expr(pick(w.dice, api.IntType, api.FloatType, api.DoubleType), deep-1)}}
	}
	return node(pick(w.dice, api.Add, api.Sub, api.Add, api.Sub, api.Mul, api.Div), w.expr(t, deep-1), w.expr(t, deep-1))
}

func (w writer) truth(deep int) api.Expr {
	if deep <= 2 || w.below(3) == 0 {
		t := pick(w.dice, api.IntType, api.IntType, api.FloatType, api.DoubleType)
		return node(pick(w.dice, api.Lt, api.Le, api.Gt, api.Ge, api.Eq, api.Ne), w.expr(t, deep-1), w.expr(t, deep-1))
	}
	if w.below(4) == 0 {
		return node(api.Not, w.truth(deep-1))
	}
	return node(pick(w.dice, api.And, api.Or), w.truth(deep-1), w.truth(deep-1))
}

// stateOf is a state that is any, and a row of cells that fits it.
func (d *dice) stateOf(u *fcheck.Unit) (*state.State, []fint.Value) {
	s := state.Top(u)
	var cells []fint.Value
	for v, x := range u.Vars() {
		value := d.valueOf(x.Type)
		for range max(x.Cells, 1) {
			cells = append(cells, value)
		}
		// Ranges on whose ends, or between whose ends, the value is.
		other := d.valueOf(x.Type)
		if d.below(4) == 0 {
			other = value
		}
		lo, hi := keyOf(x.Type, value.Bits), keyOf(x.Type, other.Bits)
		s = s.LessFloat(v, api.FloatRange{Lo: floatAt(x.Type, min(lo, hi)), Hi: floatAt(x.Type, max(lo, hi))})
		s = s.LessInt(v, ints(min(value.Int, other.Int), max(value.Int, other.Int)))
	}
	first, _ := ahead(u)
	for range d.below(3) {
		sum := cells[first[i]].Int - cells[first[j]].Int
		if d.coin() {
			s = s.Relate(i, false, j, true, sum+int64(d.below(3)))
		} else {
			s = s.Relate(i, true, j, false, -sum+int64(d.below(3)))
		}
	}
	return s, cells
}

// draw is a row of cells that fits a state.
func (d *dice) draw(u *fcheck.Unit, s *state.State) []fint.Value {
	var cells []fint.Value
	for v, x := range u.Vars() {
		for range max(x.Cells, 1) {
			c := fint.Value{Type: x.Type}
			if x.Type == api.IntType {
				c.Int = d.inside(s.Int(v))
			} else {
				c.Bits = d.floatIn(x.Type, s.Float(v))
			}
			cells = append(cells, c)
		}
		if x.Type == api.IntType && x.Cells == 0 {
			n := cells[len(cells)-1].Int
			s = s.LessInt(v, ints(n, n))
		}
	}
	return cells
}

// one is a state all of whose ranges are of one number, and its cells.
func (d *dice) one(u *fcheck.Unit) (*state.State, []fint.Value) {
	s := state.Top(u)
	var cells []fint.Value
	for v, x := range u.Vars() {
		value := d.valueOf(x.Type)
		s = s.LessInt(v, ints(value.Int, value.Int)).LessFloat(v, api.FloatRange{Lo: value.Bits, Hi: value.Bits})
		for range max(x.Cells, 1) {
			cells = append(cells, value)
		}
	}
	return s, cells
}

// What is drawn must fit, or nothing is shown by it.
func TestDraws(t *testing.T) {
	u := unit(t, every)
	d := dice(5)
	for range 500 {
		s, cells := d.stateOf(u)
		if !s.Has(cells) || !s.Has(d.draw(u, s)) {
			t.Fatal("cells that do not fit")
		}
		s, cells = d.one(u)
		if !s.Has(cells) || !slices.Equal(cells, d.draw(u, s)) {
			t.Fatal("a state of one row of cells that has others")
		}
	}
}
