package fint_test

import (
	"math"
	"strconv"

	"plumbline/api"
	"plumbline/fint"
)

// What a program does is worked out here once more, by the machine's own floats, on a flat list of points, and with errors handed on.

// datum is a value as the machine has it.
type datum struct {
	t api.Type
	n int64
	s float32
	d float64
}

func datumOf(v fint.Value) datum {
	return datum{t: v.Type, n: v.Int, s: math.Float32frombits(uint32(v.Bits)), d: math.Float64frombits(v.Bits)}
}

func (x datum) value() fint.Value {
	switch x.t {
	case api.IntType:
		return whole(x.n)
	case api.FloatType:
		return single(x.s)
	}
	return double(x.d)
}

// settled is x, or its trap; without -0.
func settled(x datum) (datum, api.Trap) {
	r := float64(x.s)
	if x.t == api.DoubleType {
		r = x.d
	}
	switch {
	case x.t == api.IntType && int64(int32(x.n)) != x.n:
		return datum{}, api.TrapOver
	case x.t == api.IntType:
		return x, 0
	case r != r:
		return datum{}, api.TrapNan
	case r-r != 0:
		return datum{}, api.TrapInf
	}
	x.s += 0
	x.d += 0
	return x, 0
}

// model is a program that is run by the machine.
type model struct {
	decls []api.Decl
	cells []datum
}

func modelOf(decls []api.Decl) *model {
	m := &model{decls: decls}
	for _, d := range decls {
		for k := 0; k == 0 || k < d.Cells; k++ {
			m.cells = append(m.cells, datum{t: d.Type})
		}
	}
	return m
}

// at is a variable's first cell, and how many there are.
func (m *model) at(name string) (first, many int) {
	for _, d := range m.decls {
		if d.Name == name {
			return first, d.Cells
		}
		first += max(1, d.Cells)
	}
	panic(name)
}

func (m *model) cell(name string, index api.Expr) (int, api.Trap) {
	x, trap := m.expr(index)
	first, many := m.at(name)
	if trap == 0 && (x.n < 0 || x.n >= int64(many)) {
		trap = api.TrapIndex
	}
	return first + int(x.n), trap
}

func parsed(t api.Type, text string) datum {
	x := datum{t: t}
	switch t {
	case api.IntType:
		x.n, _ = strconv.ParseInt(text, 10, 64)
	case api.FloatType:
		r, _ := strconv.ParseFloat(text, 32)
		x.s = float32(r)
	default:
		x.d, _ = strconv.ParseFloat(text, 64)
	}
	return x
}

func (m *model) expr(e api.Expr) (datum, api.Trap) {
	switch e.Op {
	case api.Const:
		for _, c := range e.Text {
			if c == '.' {
				return parsed(api.DoubleType, e.Text), 0
			}
		}
		return parsed(api.IntType, e.Text), 0
	case api.Var:
		first, _ := m.at(e.Text)
		return m.cells[first], 0
	case api.Cell:
		place, trap := m.cell(e.Text, e.Kids[0])
		if trap != 0 {
			return datum{}, trap
		}
		return m.cells[place], 0
	}
	x, trap := m.expr(e.Kids[0])
	if trap != 0 {
		return datum{}, trap
	}
	if len(e.Kids) == 1 {
		return ofOne(e, x)
	}
	y, trap := m.expr(e.Kids[1])
	if trap != 0 {
		return datum{}, trap
	}
	return ofTwo(e.Op, x, y)
}

func ofOne(e api.Expr, x datum) (datum, api.Trap) {
	switch e.Op {
	case api.Neg:
		x.n, x.s, x.d = -x.n, -x.s, -x.d
	case api.Abs:
		x.n, x.s, x.d = max(x.n, -x.n), float32(math.Abs(float64(x.s))), math.Abs(x.d)
	case api.Sqrt:
		// The root of a Single as a Double has places enough to be rounded once more.
		x.s, x.d = float32(math.Sqrt(float64(x.s))), math.Sqrt(x.d)
	case api.Cast:
		return casted(e.Type, x)
	}
	return settled(only(x))
}

// only is x without what is not of its type.
func only(x datum) datum {
	switch x.t {
	case api.IntType:
		x.s, x.d = 0, 0
	case api.FloatType:
		x.n, x.d = 0, 0
	default:
		x.n, x.s = 0, 0
	}
	return x
}

func casted(to api.Type, x datum) (datum, api.Trap) {
	r := x.d
	if x.t == api.FloatType {
		r = float64(x.s)
	}
	if x.t == api.IntType {
		r = float64(x.n)
	}
	switch to {
	case api.IntType:
		r = math.Trunc(r)
		if r < -1<<31 || r >= 1<<31 {
			return datum{}, api.TrapConv
		}
		return datum{t: to, n: int64(r)}, 0
	case api.FloatType:
		return settled(datum{t: to, s: float32(r)})
	}
	return settled(datum{t: to, d: r})
}

func ofTwo(op api.Op, x, y datum) (datum, api.Trap) {
	r := datum{t: x.t}
	switch op {
	case api.Add:
		r.n, r.s, r.d = x.n+y.n, x.s+y.s, x.d+y.d
	case api.Sub:
		r.n, r.s, r.d = x.n-y.n, x.s-y.s, x.d-y.d
	case api.Mul:
		r.n, r.s, r.d = x.n*y.n, x.s*y.s, x.d*y.d
	case api.Div:
		if x.t == api.IntType && y.n == 0 {
			return datum{}, api.TrapZero
		}
		if x.t == api.IntType {
			r.n = x.n / y.n
		}
		r.s, r.d = x.s/y.s, x.d/y.d
	}
	return settled(only(r))
}

func (m *model) cond(e api.Expr) (bool, api.Trap) {
	switch e.Op {
	case api.Not:
		holds, trap := m.cond(e.Kids[0])
		return !holds && trap == 0, trap
	case api.And, api.Or:
		holds, trap := m.cond(e.Kids[0])
		if trap != 0 || holds == (e.Op == api.Or) {
			return holds, trap
		}
		return m.cond(e.Kids[1])
	}
	x, trap := m.expr(e.Kids[0])
	if trap != 0 {
		return false, trap
	}
	y, trap := m.expr(e.Kids[1])
	if trap != 0 {
		return false, trap
	}
	less := x.n < y.n || x.s < y.s || x.d < y.d
	more := x.n > y.n || x.s > y.s || x.d > y.d
	return [...]bool{api.Lt: less, api.Le: !more, api.Gt: more, api.Ge: !less, api.Eq: !less && !more, api.Ne: less || more}[e.Op], 0
}

// point is a statement, and where it goes on: yes is also where what has no condition does.
type point struct {
	api.Stmt
	yes, no int
}

// laid are the points of a block that begins at a place, and is left for another one.
func laid(block []api.Stmt, at, left int) []point {
	var l []point
	for k, s := range block {
		here := at + len(l)
		then := laid(s.Then, here+1, 0)
		other := laid(s.Else, here+1+len(then), 0)
		next := here + 1 + len(then) + len(other)
		if k == len(block)-1 {
			next = left
		}
		p := point{Stmt: s, yes: next, no: next}
		behind := next
		if s.Do == api.While {
			behind, p.yes = here, here
		}
		if len(then) > 0 {
			p.yes = here + 1
		}
		if len(other) > 0 {
			p.no = here + 1 + len(then)
		}
		l = append(l, p)
		l = append(l, laid(s.Then, here+1, behind)...)
		l = append(l, laid(s.Else, here+1+len(then), behind)...)
	}
	return l
}

func bound(t api.Type, e api.Expr) datum {
	if e.Op == api.Neg {
		x := parsed(t, e.Kids[0].Text)
		x.n, x.s, x.d = -x.n, -x.s, -x.d
		return x
	}
	return parsed(t, e.Text)
}

// fits tells whether a value of a script does.
func fits(t api.Type, s api.Stmt, v fint.Value) bool {
	x := datumOf(v)
	lo, hi := bound(t, s.Low), bound(t, s.High)
	switch {
	case v.Type != t:
		return false
	case t == api.IntType:
		return v.Bits == 0 && x.n >= lo.n && x.n <= hi.n
	case t == api.FloatType:
		return v.Int == 0 && v.Bits>>32 == 0 && v.Bits != minusSingle && x.s >= lo.s && x.s <= hi.s
	}
	return v.Int == 0 && v.Bits != minusZero && x.d >= lo.d && x.d <= hi.d
}

func (m *model) told() []fint.Value {
	var l []fint.Value
	for _, x := range m.cells {
		l = append(l, x.value())
	}
	return l
}

// assigned does an Assign.
func (m *model) assigned(s api.Stmt) api.Trap {
	place, _ := m.at(s.Name)
	if len(s.Index) > 0 {
		var trap api.Trap
		if place, trap = m.cell(s.Name, s.Index[0]); trap != 0 {
			return trap
		}
	}
	x, trap := m.expr(s.Value)
	if trap == 0 {
		m.cells[place] = x
	}
	return trap
}

func runByMachine(p api.Program, script []fint.Value, steps int) (fint.Result, api.Errno) {
	m := modelOf(p.Decls)
	const end = -1
	points := laid(p.Body, 0, end)
	at := 0
	if len(points) == 0 {
		at = end
	}
	var r fint.Result
	for at != end {
		if r.Steps == steps {
			return fint.Result{}, api.ErrSteps
		}
		r.Steps++
		r.Seen = append(r.Seen, fint.Seen{Point: api.Point(at), Cells: m.told()})
		s, holds, trap := points[at], true, api.NoTrap
		switch s.Do {
		case api.Assign:
			trap = m.assigned(s.Stmt)
		case api.Read:
			place, _ := m.at(s.Name)
			if len(script) == 0 || !fits(m.cells[place].t, s.Stmt, script[0]) {
				return fint.Result{}, api.ErrScript
			}
			m.cells[place], script = only(datumOf(script[0])), script[1:]
		default:
			holds, trap = m.cond(s.Value)
		}
		if trap != 0 {
			r.Trap, r.Point = trap, api.Point(at)
			break
		}
		at = s.no
		if holds {
			at = s.yes
		}
	}
	r.Cells = m.told()
	return r, api.OK
}
