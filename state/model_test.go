package state_test

import (
	"testing"

	"plumbline/api"
	"plumbline/state"
)

// Three ints that stay near 0 are held here against all of their rows, one by one.

type row [3]int64

// edge is how far from 0 the rows go that are asked for; what is told stays within reach.
const (
	edge  = 6
	reach = 4
)

type rows map[row]struct{}

func eachRow(yield func(row) bool) {
	for x := int64(-edge); x <= edge; x++ {
		for y := int64(-edge); y <= edge; y++ {
			for z := int64(-edge); z <= edge; z++ {
				if !yield(row{x, y, z}) {
					return
				}
			}
		}
	}
}

// rowsOf are all that fit.
func rowsOf(s *state.State) rows {
	l := rows{}
	for r := range eachRow {
		if s.Has(wholes(r[:]...)) {
			l[r] = struct{}{}
		}
	}
	return l
}

// where are those that a rule takes, changed as it says.
func (l rows) where(rule func(r row) (row, bool)) rows {
	others := rows{}
	for r := range l {
		if x, ok := rule(r); ok {
			others[x] = struct{}{}
		}
	}
	return others
}

func (l rows) and(others rows) rows {
	all := rows{}
	for _, from := range []rows{l, others} {
		for r := range from {
			all[r] = struct{}{}
		}
	}
	return all
}

func (l rows) isIn(others rows) bool {
	for r := range l {
		if _, ok := others[r]; !ok {
			return false
		}
	}
	return true
}

func (l rows) rangeOf(v int) api.IntRange {
	a := noInts
	for r := range l {
		a = hull(a, r[v])
	}
	return a
}

// side is a variable, negated, or not; of two of them that are added.
type side struct {
	v   int
	neg bool
}

func (x side) of(r row) int64 { return signed(r[x.v], x.neg) }

func (d *dice) side() side { return side{d.below(3), d.coin()} }

// octagonal are all rows for which each sum of two sides is at most the greatest that one of l has.
func (l rows) octagonal() rows {
	var sides []side
	for v := range 3 {
		sides = append(sides, side{v, false}, side{v, true})
	}
	all := rows{}
	for r := range eachRow {
		all[r] = struct{}{}
	}
	for _, a := range sides {
		for _, b := range sides {
			most := int64(-4 * edge)
			for r := range l {
				most = max(most, a.of(r)+b.of(r))
			}
			all = all.where(func(r row) (row, bool) { return r, a.of(r)+b.of(r) <= most })
		}
	}
	return all
}

// checkRows holds a state against the rows that must fit it, and no others.
func checkRows(t *testing.T, what string, s *state.State, want rows) rows {
	t.Helper()
	got := rowsOf(s)
	if !want.isIn(got) {
		t.Fatalf("%s: rows that must fit do not: %v, not %v", what, got, want)
	}
	if !got.isIn(want) {
		t.Fatalf("%s: rows fit that need not: %v, not %v", what, got, want)
	}
	if s.Bottom() != (len(got) == 0) {
		t.Fatalf("%s: Bottom is %v, but there are %d rows", what, s.Bottom(), len(got))
	}
	for v := range 3 {
		if s.Int(v) != got.rangeOf(v) {
			t.Fatalf("%s: variable %d is %v, but the rows have %v", what, v, s.Int(v), got.rangeOf(v))
		}
	}
	return got
}

// changed does one call that is any, and says which rows must fit then.
func changed(d *dice, s *state.State, l rows) (string, *state.State, rows) {
	v, w, c := d.below(3), d.below(3), int64(d.below(2*reach+1)-reach)
	x, y := int64(d.below(2*reach+1)-reach), int64(d.below(2*reach+1)-reach)
	a := ints(min(x, y), max(x, y))
	switch d.below(5) {
	case 0:
		set := rows{}
		for n := a.Lo; n <= a.Hi; n++ {
			set = set.and(l.where(func(r row) (row, bool) { r[v] = n; return r, true }))
		}
		return "SetInt", s.SetInt(v, a, false), set
	case 1:
		return "LessInt", s.LessInt(v, a), l.where(func(r row) (row, bool) { return r, r[v] >= a.Lo && r[v] <= a.Hi })
	case 2:
		neg := d.coin()
		moved := l.where(func(r row) (row, bool) { r[v] = signed(r[w], neg) + c; return r, r[v] >= -reach && r[v] <= reach })
		return "CopyInt", s.CopyInt(v, w, neg, c).LessInt(v, ints(-reach, reach)), moved
	}
	p, q := d.side(), d.side()
	return "Relate", s.Relate(p.v, p.neg, q.v, q.neg, c), l.where(func(r row) (row, bool) { return r, p.of(r)+q.of(r) <= c })
}

func begin(t *testing.T) *state.State {
	t.Helper()
	s := state.Top(unit(t, "int x; int y; int z;"))
	for v := range 3 {
		s = s.LessInt(v, ints(-reach, reach))
	}
	return s
}

// P11.2, P11.3, P11.5: what is set, left out, copied and related, row by row; Bottom, where no row is left.
func TestRowByRow(t *testing.T) {
	d := dice(2025)
	for range 60 {
		s := begin(t)
		l := rowsOf(s)
		for range 8 {
			var what string
			what, s, l = changed(&d, s, l)
			l = checkRows(t, what, s, l)
		}
	}
}

// P11.4: what is joined has the rows of both, and no more than an octagon must have; Within tells of rows.
func TestJoinRowByRow(t *testing.T) {
	d := dice(77)
	for range 60 {
		var states [2]*state.State
		var all [2]rows
		for k := range states {
			states[k], all[k] = begin(t), rowsOf(begin(t))
			for range 1 + d.below(5) {
				_, states[k], all[k] = changed(&d, states[k], all[k])
			}
		}
		s, r, both := states[0], states[1], states[0].Join(states[1])
		l := all[0].and(all[1])
		if len(l) > 0 {
			l = l.octagonal()
		}
		checkRows(t, "Join", both, l)
		if !s.Within(both) || !r.Within(both) || s.Within(r) != all[0].isIn(all[1]) || r.Within(s) != all[1].isIn(all[0]) {
			t.Fatalf("Within tells otherwise than the rows %v and %v", all[0], all[1])
		}
		if s.Same(r) != (s.Within(r) && r.Within(s)) {
			t.Fatal("Same tells otherwise than Within")
		}
		wide := s.Widen(r, int64(d.below(9)-4), int64(d.below(9)-4))
		if !all[0].and(all[1]).isIn(rowsOf(wide)) || !both.Within(wide) {
			t.Fatal("rows of one of both do not fit Widen")
		}
		v, x := d.below(3), int64(d.below(2*reach+1)-reach)
		weak := all[0].and(all[0].where(func(q row) (row, bool) { q[v] = x; return q, true }))
		if len(weak) > 0 {
			weak = weak.octagonal()
		}
		checkRows(t, "SetInt, weak", s.SetInt(v, ints(x, x), true), weak)
	}
}
