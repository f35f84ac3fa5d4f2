package judge

import (
	"plumbline/api"
	"plumbline/fcheck"
	"plumbline/span"
	"plumbline/state"
)

// split is what is left of a state where a condition holds, and where it does not. Both are told at once: else conditions in conditions would be asked again and again.
func split(u *fcheck.Unit, s *state.State, e api.Expr) (yes, no *state.State, traps api.Traps) {
	if s.Bottom() {
		return s.Kill(), s.Kill(), 0
	}
	switch e.Op {
	case api.Not:
		no, yes, traps = split(u, s, e.Kids[0])
		return yes, no, traps
	case api.And:
		yes, no, traps = split(u, s, e.Kids[0])
		both, first, more := split(u, yes, e.Kids[1])
		return both, no.Join(first), traps | more
	case api.Or:
		yes, no, traps = split(u, s, e.Kids[0])
		second, none, more := split(u, no, e.Kids[1])
		return yes.Join(second), none, traps | more
	}
	h := hearingOf(u, s)
	c := comparison{hearing: h, left: h.side(e.Kids[0])}
	// Where the first one always traps, the second one is not come to.
	if !c.left.isNone() {
		c.right = h.side(e.Kids[1])
	}
	return c.where(e.Op), c.where(against()[e.Op]), h.traps
}

// against is which Op holds just where another one does not.
func against() map[api.Op]api.Op {
	return map[api.Op]api.Op{
		api.Lt: api.Ge, api.Ge: api.Lt,
		api.Gt: api.Le, api.Le: api.Gt,
		api.Eq: api.Ne, api.Ne: api.Eq,
	}
}

// comparison is two sides, asked of the same state.
type comparison struct {
	*hearing
	left, right side
}

// side is one of a comparison, and what it is made of: a variable (of an int negated, if neg) and c, if that is so.
type side struct {
	known
	isSum bool
	v     int
	neg   bool
	c     int64
}

func (h *hearing) side(e api.Expr) side {
	d := side{known: h.ask(e)}
	if e.Op == api.Var {
		d.v, d.isSum = h.unit.Place(e.Text)
	} else {
		d.v, d.neg, d.c, d.isSum = Linear(h.unit, e)
	}
	return d
}

// where is what is left of the state where both sides stand as op says; nothing, if one of them has no value.
func (c comparison) where(op api.Op) *state.State {
	if c.left.Type == api.IntType {
		return c.whereInts(op)
	}
	a, b := span.Refine(formatOf(c.left.Type), op, c.left.Float, c.right.Float)
	if a.Empty {
		return c.state.Kill()
	}
	return c.right.lessFloat(c.left.lessFloat(c.state, a), b)
}

func (c comparison) whereInts(op api.Op) *state.State {
	a, b := span.IntRefine(op, c.left.Int, c.right.Int)
	if a.Empty {
		return c.state.Kill()
	}
	s := c.right.lessInt(c.left.lessInt(c.state, a), b)
	switch op {
	case api.Lt:
		return below(s, c.left, c.right, 1)
	case api.Le:
		return below(s, c.left, c.right, 0)
	case api.Gt:
		return below(s, c.right, c.left, 1)
	case api.Ge:
		return below(s, c.right, c.left, 0)
	case api.Eq:
		return below(below(s, c.left, c.right, 0), c.right, c.left, 0)
	}
	return s
}

// below is where a is below b, by so much at least.
func below(s *state.State, a, b side, by int64) *state.State {
	if !a.isSum || !b.isSum {
		return s
	}
	return s.Relate(a.v, a.neg, b.v, !b.neg, b.c-a.c-by)
}

// lessFloat is where the side lies in a, as far as its variable tells.
func (d side) lessFloat(s *state.State, a api.FloatRange) *state.State {
	if !d.isSum {
		return s
	}
	return s.LessFloat(d.v, a)
}

func (d side) lessInt(s *state.State, a api.IntRange) *state.State {
	if !d.isSum {
		return s
	}
	from, by := a, span.IntOf(d.c, d.c)
	if d.neg {
		from, by = by, from
	}
	// What is no int then is no value of the variable.
	a, _ = span.IntTwo(api.Sub, from, by)
	return s.LessInt(d.v, a)
}
