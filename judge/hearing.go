package judge

import (
	"plumbline/api"
	"plumbline/fcheck"
	"plumbline/linear"
	"plumbline/span"
	"plumbline/state"
)

// hearing is expressions that are asked of a state, one behind the other, and the traps that were come by.
type hearing struct {
	unit   *fcheck.Unit
	state  *state.State
	vars   []api.Decl
	floats []api.FloatRange // of all variables, as Doubles
	traps  api.Traps
}

func hearingOf(u *fcheck.Unit, s *state.State) *hearing {
	h := &hearing{unit: u, state: s, vars: u.Vars()}
	for v, d := range h.vars {
		h.floats = append(h.floats, asDoubles(d.Type, s.Float(v)))
	}
	return h
}

// ask is what is known of an expression that is no truth. What stands behind a part that always traps is not asked.
func (h *hearing) ask(e api.Expr) known {
	switch e.Op {
	case api.Const:
		return number(e)
	case api.Var:
		return h.variable(e.Text)
	}
	a := h.ask(e.Kids[0])
	switch e.Op {
	case api.Cell:
		return h.cell(e.Text, a)
	case api.Cast:
		return h.cast(e.Type, a)
	case api.Neg, api.Abs, api.Sqrt:
		return h.alone(e.Op, a)
	}
	if a.isNone() {
		return a
	}
	return h.together(e.Op, a, h.ask(e.Kids[1]))
}

// trap notes traps that may be.
func (h *hearing) trap(traps api.Traps) {
	h.traps |= traps
}

func (h *hearing) variable(name string) known {
	v, _ := h.unit.Place(name)
	t := h.vars[v].Type
	if t == api.IntType {
		return knownInt(h.state.Int(v))
	}
	k := knownFloat(t, h.state.Float(v))
	k.form = linear.OfVar(v)
	return k
}

func (h *hearing) cell(name string, index known) known {
	v, _ := h.unit.Place(name)
	d := h.vars[v]
	there := span.IntOf(0, int64(d.Cells)-1)
	if !span.IntWithin(index.Int, there) {
		h.trap(1 << (api.TrapIndex - 1))
	}
	switch {
	case span.IntMeet(index.Int, there).Empty:
		return known{Value: noValue(d.Type)}
	case d.Type == api.IntType:
		return knownInt(h.state.Int(v))
	}
	return knownFloat(d.Type, h.state.Float(v))
}

func (h *hearing) cast(to api.Type, a known) known {
	switch {
	case to == a.Type:
		return a
	case to == api.IntType:
		r, traps := span.ToInt(formatOf(a.Type), a.Float)
		h.trap(traps)
		return knownInt(r)
	case a.Type == api.IntType:
		return knownFloat(to, span.FromInt(formatOf(to), a.Int))
	}
	r, traps := span.To(formatOf(a.Type), formatOf(to), a.Float)
	h.trap(traps)
	k := knownFloat(to, r)
	// To Singles it is rounded; Doubles have all numbers that come to them.
	if to == api.FloatType {
		k.form = linear.Blur(a.form, api.Single, k.doubles())
	} else {
		k.form = a.form
	}
	return k
}

func (h *hearing) alone(op api.Op, a known) known {
	if a.Type == api.IntType {
		r, traps := span.IntOne(op, a.Int)
		h.trap(traps)
		return knownInt(r)
	}
	r, traps := span.One(formatOf(a.Type), op, a.Float)
	h.trap(traps)
	k := knownFloat(a.Type, r)
	if op == api.Neg {
		k.form = linear.Neg(a.form)
	}
	return k
}

func (h *hearing) together(op api.Op, a, b known) known {
	if a.Type == api.IntType {
		r, traps := span.IntTwo(op, a.Int, b.Int)
		h.trap(traps)
		return knownInt(r)
	}
	f := formatOf(a.Type)
	r, traps := span.Two(f, op, a.Float, b.Float)
	form := formOf(op, a, b)
	if exact, ok := linear.Eval(form, h.floats...); ok {
		near, past := span.To(api.Double, f, exact)
		r = span.Meet(f, r, near)
		// Numbers that are finite, and are so when they are rounded, can't be too great.
		if past == 0 {
			traps &^= 1 << (api.TrapInf - 1)
		}
	}
	h.trap(traps)
	k := knownFloat(a.Type, r)
	if !form.Whole {
		k.form = linear.Blur(form, f, k.doubles())
	}
	return k
}

// formOf is one whose numbers have the true results among them, ahead of rounding.
func formOf(op api.Op, a, b known) linear.Form {
	switch op {
	case api.Add:
		return linear.Add(a.form, b.form)
	case api.Sub:
		return linear.Sub(a.form, b.form)
	case api.Mul:
		if a.Float.Lo == a.Float.Hi {
			a, b = b, a
		}
		return linear.Scale(a.form, b.doubles())
	}
	return linear.Form{Whole: true}
}
