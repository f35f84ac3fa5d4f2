package flow_test

import (
	"testing"

	"plumbline/api"
	"plumbline/fcheck"
	"plumbline/fint"
	"plumbline/flow"
	"plumbline/state"
)

// withValue are cells in which one is a value of the range that a state has of v.
func withValue(cells []fint.Value, at int, kind api.Type, s *state.State, v int, d *dice) []fint.Value {
	behind := append(cells[:0:0], cells...)
	behind[at] = fint.Value{Type: kind}
	if kind == api.IntType {
		behind[at].Int = d.inside(s.Int(v))
	} else {
		behind[at].Bits = d.floatIn(kind, s.Float(v))
	}
	return behind
}

// P13.1, P13.4 (E4): cells that are drawn to fit a state fit, behind an Assign, what is told; or its trap is told.
func TestStepIsSound(t *testing.T) {
	d := dice(20261118)
	w := writer{&d}
	ended, trapped := 0, 0
	for range 12000 {
		x := w.assign()
		u := w.program(t, x)
		s, cells := d.stateOf(u)
		was := tell(s)
		r, traps := flow.Step(u, s, 0)
		for n := range 5 {
			if n > 0 {
				cells = d.draw(u, s)
			}
			behind, trap := assigned(t, u, x, cells)
			switch {
			case trap == api.NoTrap && !r.Has(behind):
				t.Fatalf("%v with %v: %v is lost", x, cells, behind)
			case trap == api.NoTrap:
				ended++
			case traps&trapsOf(trap) == 0:
				t.Fatalf("%v with %v traps by %d, not in %d", x, cells, trap, traps)
			default:
				trapped++
			}
		}
		if tell(s) != was {
			t.Fatalf("%v changes the state", x)
		}
	}
	if ended < 1000 || trapped < 1000 {
		t.Error("too few that end, or that trap:", ended, trapped)
	}
}

// P13.2 (E6): of one row of cells just those behind it are told, or just the trap.
func TestStepOfOneRow(t *testing.T) {
	d := dice(909)
	w := writer{&d}
	ended, trapped := 0, 0
	for range 15000 {
		x := w.assign()
		u := w.program(t, x)
		s, cells := d.alone(u)
		r, traps := flow.Step(u, s, 0)
		behind, trap := assigned(t, u, x, cells)
		if trap != api.NoTrap {
			if !r.Bottom() || traps != trapsOf(trap) {
				t.Fatalf("%v with %v traps by %d; told are %d, Bottom %v", x, cells, trap, traps, r.Bottom())
			}
			trapped++
			continue
		}
		if traps != 0 || !r.Has(behind) || len(x.Index) == 0 && !isOne(u, r) {
			t.Fatalf("%v with %v: %v, %d; want just %v", x, cells, tell(r), traps, behind)
		}
		ended++
	}
	if ended < 1000 || trapped < 1000 {
		t.Error("too few that end, or that trap:", ended, trapped)
	}
}

// follower goes with a run from statement to statement, and holds the cells against a state that goes with them.
type follower struct {
	t     *testing.T
	unit  *fcheck.Unit
	state *state.State
}

// next does the statement of a step, with the cells ahead of it, and those behind it.
func (x *follower) next(ahead fint.Seen, behind []fint.Value) {
	x.t.Helper()
	if !x.state.Has(ahead.Cells) {
		x.t.Fatalf("ahead of %d the cells %v are lost", ahead.Point, ahead.Cells)
	}
	s, _ := x.unit.At(ahead.Point)
	if s.Do == api.Assign || s.Do == api.Read {
		x.state, _ = flow.Step(x.unit, x.state, ahead.Point)
	} else {
		yes, no, _ := flow.Branch(x.unit, x.state, ahead.Point)
		x.state = no
		if holds, _, _ := fint.Bool(x.unit, s.Value, ahead.Cells); holds {
			x.state = yes
		}
	}
	if !x.state.Has(behind) {
		x.t.Fatalf("behind %d the cells %v are lost", ahead.Point, behind)
	}
}

// P13.4 (E4): runs are gone with, step by step, from the first state and from ones that have more cells.
func TestRunsAreFollowed(t *testing.T) {
	d := dice(31337)
	w := writer{&d}
	steps, traps := 0, 0
	for range 4000 {
		u := w.program(t, w.block(4)...)
		r, e := fint.Run(u, script(&d, u), 60)
		if e != api.OK {
			continue
		}
		from := state.First(u)
		if d.coin() {
			more, _ := d.stateOf(u)
			from = from.Join(more)
		}
		x := follower{t, u, from}
		for k, seen := range r.Seen {
			switch {
			case k+1 < len(r.Seen):
				x.next(seen, r.Seen[k+1].Cells)
			case r.Trap == api.NoTrap:
				x.next(seen, r.Cells)
			case !tellsTrap(u, x.state, r.Point, r.Trap):
				t.Fatalf("at %d the trap %d is not told", r.Point, r.Trap)
			default:
				traps++
			}
			steps++
		}
	}
	if steps < 5000 || traps < 300 {
		t.Error("too few steps, or too few traps:", steps, traps)
	}
}

// tellsTrap tells whether a trap is among those of a point.
func tellsTrap(u *fcheck.Unit, s *state.State, p api.Point, trap api.Trap) bool {
	_, a := flow.Step(u, s, p)
	_, _, b := flow.Branch(u, s, p)
	return (a|b)&trapsOf(trap) != 0
}

// script has values for what a run reads, in the order of the text, and again.
func script(d *dice, u *fcheck.Unit) []fint.Value {
	var l []fint.Value
	for range 8 {
		for _, p := range u.Reads() {
			s, _ := u.At(p)
			v, _ := u.Place(s.Name)
			r, _ := flow.Step(u, state.First(u), p)
			kind := u.Vars()[v].Type
			l = append(l, withValue([]fint.Value{{}}, 0, kind, r, v, d)[0])
		}
	}
	return l
}

// Done again all is the same.
func TestDoneAgain(t *testing.T) {
	d := dice(11)
	w := writer{&d}
	for range 300 {
		u := w.program(t, w.block(3)...)
		s, _ := d.stateOf(u)
		for p := range api.Point(u.Points()) {
			a, first := flow.Step(u, s, p)
			b, second := flow.Step(u, s, p)
			yes, no, traps := flow.Branch(u, s, p)
			yes2, no2, traps2 := flow.Branch(u, s, p)
			if !a.Same(b) || first != second || !yes.Same(yes2) || !no.Same(no2) || traps != traps2 {
				t.Fatalf("at %d it is otherwise the second time", p)
			}
		}
	}
}
