package fint

import (
	"plumbline/api"
	"plumbline/fcheck"
	"plumbline/soft"
)

// memory is a program's variables: where the cells of each one begin, and what all of them hold.
type memory struct {
	unit  *fcheck.Unit
	vars  []api.Decl
	first []int
	cells []Value
}

// memoryOf is a program's, all 0.
func memoryOf(u *fcheck.Unit) memory {
	m := memory{unit: u, vars: u.Vars()}
	for _, d := range m.vars {
		m.first = append(m.first, len(m.cells))
		for range max(d.Cells, 1) {
			m.cells = append(m.cells, Value{Type: d.Type})
		}
	}
	return m
}

// fit tells whether other cells are right in the place of those that it has.
func (m *memory) fit(cells []Value) bool {
	if len(cells) != len(m.cells) {
		return false
	}
	for i, v := range cells {
		if !isRight(m.cells[i].Type, v) {
			return false
		}
	}
	return true
}

// place is where a variable's cell, or its first one, lies.
func (m *memory) place(name string) int {
	number, _ := m.unit.Place(name)
	return m.first[number]
}

// placeAt is where the cell of an array lies that an index tells.
func (m *memory) placeAt(name string, index api.Expr) int {
	at := m.value(index).Int
	number, _ := m.unit.Place(name)
	if at < 0 || at >= int64(m.vars[number].Cells) {
		panic(api.TrapIndex)
	}
	return m.first[number] + int(at)
}

// isRight tells whether a value is right for a type.
func isRight(t api.Type, v Value) bool {
	if v.Type != t {
		return false
	}
	if t == api.IntType {
		return v.Int >= api.MinInt && v.Int <= api.MaxInt && v.Bits == 0
	}
	f := formatOf(t)
	isMinusZero := soft.Class(f, v.Bits) == api.IsZero && v.Bits != 0
	return soft.Finite(f, v.Bits) && !isMinusZero && v.Int == 0
}

// formatOf is that of floats of a type.
func formatOf(t api.Type) api.Format {
	if t == api.FloatType {
		return api.Single
	}
	return api.Double
}
