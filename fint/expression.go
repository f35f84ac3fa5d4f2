package fint

import (
	"cmp"
	"strings"

	"plumbline/api"
	"plumbline/conv"
	"plumbline/soft"
)

// value is an expression's, which is no truth; a trap gives up.
func (m *memory) value(e api.Expr) Value {
	switch e.Op {
	case api.Const:
		return numberOf(typeOf(e.Text), e.Text)
	case api.Var:
		return m.cells[m.place(e.Text)]
	case api.Cell:
		return m.cells[m.placeAt(e.Text, e.Kids[0])]
	}
	a := m.value(e.Kids[0])
	switch e.Op {
	case api.Cast:
		return cast(e.Type, a)
	case api.Neg, api.Abs, api.Sqrt:
		return alone(e.Op, a)
	}
	return together(e.Op, a, m.value(e.Kids[1]))
}

// truth is whether a condition holds; a trap gives up.
func (m *memory) truth(e api.Expr) bool {
	switch e.Op {
	case api.And:
		return m.truth(e.Kids[0]) && m.truth(e.Kids[1])
	case api.Or:
		return m.truth(e.Kids[0]) || m.truth(e.Kids[1])
	case api.Not:
		return !m.truth(e.Kids[0])
	}
	a := m.value(e.Kids[0])
	b := m.value(e.Kids[1])
	return stands(e.Op, order(a, b))
}

// stands tells whether two stand as op says, of which the first one is below (-1), alike (0) or above (1).
func stands(op api.Op, order int) bool {
	switch op {
	case api.Lt:
		return order < 0
	case api.Le:
		return order <= 0
	case api.Gt:
		return order > 0
	case api.Ge:
		return order >= 0
	case api.Eq:
		return order == 0
	}
	return order != 0
}

// order is how two values of one type stand to each other.
func order(a, b Value) int {
	if a.Type == api.IntType {
		return cmp.Compare(a.Int, b.Int)
	}
	n, _ := soft.Compare(formatOf(a.Type), a.Bits, b.Bits)
	return n
}

// typeOf is the type of a number in an expression.
func typeOf(digits string) api.Type {
	if strings.Contains(digits, ".") {
		return api.DoubleType
	}
	return api.IntType
}

// numberOf is the value of digits that are checked.
func numberOf(t api.Type, digits string) Value {
	if t == api.IntType {
		n, _ := conv.Int(digits)
		return whole(n)
	}
	bits, _ := conv.Literal(formatOf(t), digits)
	return float(t, bits)
}
