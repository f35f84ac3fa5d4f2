package span

import "plumbline/api"

func (l line[N]) two(op api.Op, a, b stretch[N]) (stretch[N], api.Traps) {
	by := l.byTwo(op)
	switch {
	case a.empty || b.empty || by == nil:
		return none[N](), 0
	case op == api.Div:
		return l.quotients(by, a, b)
	}
	return l.told(eachOfBoth(by, a, b))
}

// quotients are of a and what b has beside 0.
func (l line[N]) quotients(by func(x, y N) N, a, b stretch[N]) (stretch[N], api.Traps) {
	r, traps := l.told(eachOfBoth(by, a, l.meet(b, l.below(0)), l.meet(b, l.above(0))))
	if l.has(b, 0) {
		traps |= l.byZero(a)
	}
	return r, traps
}

func (l line[N]) one(op api.Op, a stretch[N]) (stretch[N], api.Traps) {
	by := l.byOne(op)
	if a.empty || by == nil {
		return none[N](), 0
	}
	below, others := l.meet(a, l.below(0)), l.meet(a, l.from(0))
	if op != api.Sqrt {
		return l.told(each(by, below, others))
	}
	r, traps := l.told(each(by, others))
	if !below.empty {
		traps |= trapsOf(api.TrapNan)
	}
	return r, traps
}

// refine is what is left of a and b where one of a stands to one of b as op says.
func (l line[N]) refine(op api.Op, a, b stretch[N]) (stretch[N], stretch[N]) {
	r, s := a, b
	switch op {
	case api.Lt:
		r, s = l.meet(a, l.below(b.hi)), l.meet(b, l.above(a.lo))
	case api.Le:
		r, s = l.meet(a, l.upTo(b.hi)), l.meet(b, l.from(a.lo))
	case api.Gt:
		s, r = l.refine(api.Lt, b, a)
	case api.Ge:
		s, r = l.refine(api.Le, b, a)
	case api.Eq:
		r, s = l.meet(a, b), l.meet(b, a)
	case api.Ne:
		r, s = l.without(a, b), l.without(b, a)
	default:
		// Nothing is asked of them, so that an Empty one takes nothing of the other one.
		return a, b
	}
	// Also one that was so from the beginning.
	if r.empty || s.empty {
		return none[N](), none[N]()
	}
	return r, s
}

// without is a without b's only number, where that is an end of a's.
func (l line[N]) without(a, b stretch[N]) stretch[N] {
	switch x := b.lo; {
	case l.order(x, b.hi) != 0:
		return a
	case l.order(x, a.lo) == 0:
		return l.meet(a, l.above(x))
	case l.order(x, a.hi) == 0:
		return l.meet(a, l.below(x))
	}
	return a
}
