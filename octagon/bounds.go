package octagon

import "plumbline/api"

// A side is a variable (2 times its number), or a variable negated (one more); a bound is of two sides, added.
const (
	room = 2 * api.MaxInts // for sides
	edge = 1 << 33         // how far the box goes

	farthestLimit = 1 << 35 // of a number that a bound may be given
)

func sideOf(i int, neg bool) int {
	if neg {
		return 2*i + 1
	}
	return 2 * i
}

// other is the side of the same variable with the other sign.
func other(a int) int {
	return a ^ 1
}

func valueOf(a int, l []int64) int64 {
	if a%2 == 1 {
		return -l[a/2]
	}
	return l[a/2]
}

// allInBox tells whether they are a point; sums of two cannot go round then.
func allInBox(l []int64) bool {
	for _, x := range l {
		if x < -edge || x > edge {
			return false
		}
	}
	return true
}

// inBox is the bound of two sides in the whole box.
func inBox(a, b int) int64 {
	if a == other(b) {
		return 0
	}
	return 2 * edge
}

// kept is a bound that what is widened keeps: none, if the other one goes past it.
func kept(x, y int64) int64 {
	if x < y {
		return 2 * edge
	}
	return x
}

func alike(o, p *Oct) bool {
	return o != nil && p != nil && o.vars == p.vars
}

func (o *Oct) isVar(i int) bool {
	return o != nil && i >= 0 && i < o.vars
}

// fault is the error of a call of variables and of a number that is at most so far from 0.
func (o *Oct) fault(c, far int64, vars ...int) api.Errno {
	if o == nil {
		return api.ErrNil
	}
	for _, i := range vars {
		if !o.isVar(i) {
			return api.ErrRange
		}
	}
	if c < -far || c > far {
		return api.ErrRange
	}
	return api.OK
}

// sides is how many of those that there is room for are its own.
func (o *Oct) sides() int {
	return 2 * o.vars
}

func (o *Oct) row(a int) []int64 {
	return o.most[a][:o.sides():o.sides()]
}

func (o *Oct) fill(by func(a, b int) int64) {
	for a := range o.sides() {
		row := o.row(a)
		for b := range row {
			row[b] = by(a, b)
		}
	}
}

// together has, for each two sides, what by makes of both's bounds.
func together(o, p *Oct, by func(x, y int64) int64) *Oct {
	r := &Oct{vars: o.vars}
	r.fill(func(a, b int) int64 { return by(o.most[a][b], p.most[a][b]) })
	return r
}

// drain leaves no point.
func (o *Oct) drain() {
	*o = Oct{vars: o.vars, empty: true}
}

// lower lets a bound be at most c; the others are not tight then.
func (o *Oct) lower(a, b int, c int64) {
	if o.empty {
		return
	}
	o.most[a][b] = min(o.most[a][b], c)
	o.most[b][a] = min(o.most[b][a], c)
}

// greatest is that of a side.
func (o *Oct) greatest(a int) int64 {
	return o.most[a][a] / 2
}

// free lets a variable be any number of the box, whatever the others are: so the bounds stay tight.
func (o *Oct) free(i int) {
	if o.empty {
		return
	}
	old := *o
	o.fill(func(a, b int) int64 {
		switch {
		case a/2 == i && b/2 == i:
			return inBox(a, b)
		case a/2 == i:
			return edge + old.greatest(b)
		case b/2 == i:
			return edge + old.greatest(a)
		}
		return old.most[a][b]
	})
}

// move lets i be i (negated, if neg) and c, in the box or not.
func (o *Oct) move(i int, neg bool, c int64) {
	if o.empty {
		return
	}
	old := *o
	from := func(a int) int {
		if neg && a/2 == i {
			return other(a)
		}
		return a
	}
	gain := func(a int) int64 {
		switch a {
		case sideOf(i, false):
			return c
		case sideOf(i, true):
			return -c
		}
		return 0
	}
	o.fill(func(a, b int) int64 { return old.most[from(a)][from(b)] + gain(a) + gain(b) })
}

// tighten lowers each bound to the greatest that a point has, or finds that there is no point.
func (o *Oct) tighten() {
again:
	for !o.empty {
		for via := range o.sides() {
			o.goOver(via)
			// At once: bounds that stand against one another would make each other ever lower.
			if o.contradicts() {
				o.drain()
				continue again
			}
		}
		// What is lowered by halves may lower others once more.
		if o.halve() {
			continue again
		}
		return
	}
}

// goOver lowers the bound of two sides to the sum of one with via, and of via's other side with the other one.
func (o *Oct) goOver(via int) {
	behind := o.row(other(via))
	for a := range o.sides() {
		row := o.row(a)
		ahead := row[via]
		for b := range row {
			row[b] = min(row[b], ahead+behind[b])
		}
	}
}

// contradicts tells whether a side and its other one, which come to 0, are to come to less.
func (o *Oct) contradicts() bool {
	for a := range o.sides() {
		if o.most[a][other(a)] < 0 {
			return true
		}
	}
	return false
}

// halve lets no side be more than a whole number, and no two more than both; it tells whether a bound was lowered.
func (o *Oct) halve() bool {
	lowered := false
	for a := range o.sides() {
		row := o.row(a)
		for b := range row {
			if most := floorHalf(o.most[a][a]) + floorHalf(o.most[b][b]); most < row[b] {
				row[b] = most
				lowered = true
			}
		}
	}
	return lowered
}

// floorHalf is a half, without its places, also below 0.
func floorHalf(x int64) int64 {
	return x >> 1
}
