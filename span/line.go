package span

import (
	"iter"

	"plumbline/api"
)

// line is all numbers of one kind, in their order, and how they are reckoned with. A result may lie past its ends.
type line[N number] struct {
	least, most N
	past        api.Trap // what a result is that does
	order       func(x, y N) int
	plain       func(x N) N
	isOne       func(x N) bool // is it a number of the line, as it stands in ranges?
	prev, next  func(x N) N    // not asked past the ends
	byOne       func(op api.Op) func(x N) N
	byTwo       func(op api.Op) func(x, y N) N
	byZero      func(a stretch[N]) api.Traps // of what is divided by 0
}

func trapsOf(t api.Trap) api.Traps {
	return 1 << (t - 1)
}

func (l line[N]) all() stretch[N] {
	return stretch[N]{lo: l.least, hi: l.most}
}

func (l line[N]) of(lo, hi N) stretch[N] {
	a := stretch[N]{lo: l.plain(lo), hi: l.plain(hi)}
	if !l.isRight(a) {
		return none[N]()
	}
	return a
}

func (l line[N]) isRight(a stretch[N]) bool {
	if a.empty {
		return a == none[N]()
	}
	return l.isOne(a.lo) && l.isOne(a.hi) && l.order(a.lo, a.hi) <= 0
}

func (l line[N]) has(a stretch[N], x N) bool {
	return !a.empty && l.isOne(l.plain(x)) && l.order(a.lo, x) <= 0 && l.order(x, a.hi) <= 0
}

// smaller and greater are of two.
func (l line[N]) smaller(x, y N) N {
	if l.order(y, x) < 0 {
		return y
	}
	return x
}

func (l line[N]) greater(x, y N) N {
	if l.order(y, x) > 0 {
		return y
	}
	return x
}

func (l line[N]) meet(a, b stretch[N]) stretch[N] {
	lo, hi := l.greater(a.lo, b.lo), l.smaller(a.hi, b.hi)
	if a.empty || b.empty || l.order(lo, hi) > 0 {
		return none[N]()
	}
	return stretch[N]{lo: lo, hi: hi}
}

func (l line[N]) join(a, b stretch[N]) stretch[N] {
	switch {
	case a.empty:
		return b
	case b.empty:
		return a
	}
	return stretch[N]{lo: l.smaller(a.lo, b.lo), hi: l.greater(a.hi, b.hi)}
}

func (l line[N]) within(a, b stretch[N]) bool {
	if a.empty || b.empty {
		return a.empty
	}
	return l.order(b.lo, a.lo) <= 0 && l.order(a.hi, b.hi) <= 0
}

// widen goes, where b lies out of a, to the next of the thresholds, or to the line's end.
func (l line[N]) widen(a, b stretch[N], thresholds ...N) stretch[N] {
	if a.empty || b.empty {
		return l.join(a, b)
	}
	low, high := l.least, l.most
	for _, x := range thresholds {
		if l.isOne(x) && l.order(x, b.lo) <= 0 {
			low = l.greater(low, x)
		}
		if l.isOne(x) && l.order(x, b.hi) >= 0 {
			high = l.smaller(high, x)
		}
	}
	if l.order(b.lo, a.lo) >= 0 {
		low = a.lo
	}
	if l.order(b.hi, a.hi) <= 0 {
		high = a.hi
	}
	return stretch[N]{lo: low, hi: high}
}

// below is all that is below x.
func (l line[N]) below(x N) stretch[N] {
	// The least one has none ahead of it.
	if l.order(x, l.least) <= 0 {
		return none[N]()
	}
	return stretch[N]{lo: l.least, hi: l.prev(x)}
}

// above is all that is above x.
func (l line[N]) above(x N) stretch[N] {
	// The greatest one has none behind it.
	if l.order(x, l.most) >= 0 {
		return none[N]()
	}
	return stretch[N]{lo: l.next(x), hi: l.most}
}

// upTo is x and all that is below it.
func (l line[N]) upTo(x N) stretch[N] {
	return stretch[N]{lo: l.least, hi: x}
}

// from is x and all that is above it.
func (l line[N]) from(x N) stretch[N] {
	return stretch[N]{lo: x, hi: l.most}
}

// told is results from the least to the greatest, CLIPPED, and the trap of those that lie past the line's ends.
func (l line[N]) told(results iter.Seq[N]) (stretch[N], api.Traps) {
	whole := none[N]()
	var traps api.Traps
	for x := range results {
		x = l.plain(x)
		if l.order(x, l.least) < 0 || l.order(x, l.most) > 0 {
			traps = trapsOf(l.past)
		}
		whole = l.join(whole, stretch[N]{lo: x, hi: x})
	}
	return l.meet(whole, l.all()), traps
}
