package solve_test

import (
	"slices"
	"testing"

	"plumbline/api"
	"plumbline/fcheck"
	"plumbline/fint"
	"plumbline/solve"
)

// run is a program gone through by fint's values. It keeps what it saw, also where it does not come to an end, of which fint.Run tells nothing.
type run struct {
	*dice
	unit   *fcheck.Unit
	first  []int // where the cells of each variable begin
	cells  []fint.Value
	script []fint.Value // all that was read
	left   int          // steps that it may take
	seen   []fint.Seen
	trap   api.Trap
	isOver bool // by a trap, or as no step was left
}

// runOf draws what is read as it is come to.
func runOf(d *dice, u *fcheck.Unit, steps int) *run {
	r := &run{dice: d, unit: u, left: steps}
	for _, x := range u.Vars() {
		r.first = append(r.first, len(r.cells))
		for range max(x.Cells, 1) {
			r.cells = append(r.cells, fint.Value{Type: x.Type})
		}
	}
	r.block(u.Program().Body, 0)
	return r
}

// come tells whether a point is come to.
func (r *run) come(at api.Point) bool {
	if r.isOver || r.left == 0 {
		r.isOver = true
		return false
	}
	r.left--
	r.seen = append(r.seen, fint.Seen{Point: at, Cells: slices.Clone(r.cells)})
	return true
}

// block is the point behind all of it.
func (r *run) block(l []api.Stmt, at api.Point) api.Point {
	for _, s := range l {
		r.stmt(s, at)
		at += 1 + sizeOf(s.Then) + sizeOf(s.Else)
	}
	return at
}

func sizeOf(l []api.Stmt) api.Point {
	var n api.Point
	for _, s := range l {
		n += 1 + sizeOf(s.Then) + sizeOf(s.Else)
	}
	return n
}

func (r *run) stmt(s api.Stmt, at api.Point) {
	for r.come(at) {
		switch s.Do {
		case api.Assign:
			r.assign(s)
			return
		case api.Read:
			v, _ := r.unit.Place(s.Name)
			t := r.unit.Vars()[v].Type
			value := r.between(bound(t, s.Low), bound(t, s.High))
			r.script = append(r.script, value)
			r.cells[r.first[v]] = value
			return
		}
		holds, trap, _ := fint.Bool(r.unit, s.Value, r.cells)
		switch {
		case r.fails(trap):
			return
		case holds:
			r.block(s.Then, at+1)
		default:
			r.block(s.Else, at+1+sizeOf(s.Then))
		}
		if s.Do == api.If || !holds {
			return
		}
	}
}

func (r *run) assign(s api.Stmt) {
	v, _ := r.unit.Place(s.Name)
	at := r.first[v]
	for _, e := range s.Index {
		index, trap, _ := fint.Eval(r.unit, e, r.cells)
		if r.fails(trap) {
			return
		}
		if index.Int < 0 || index.Int >= int64(r.unit.Vars()[v].Cells) {
			r.fails(api.TrapIndex)
			return
		}
		at += int(index.Int)
	}
	value, trap, _ := fint.Eval(r.unit, s.Value, r.cells)
	if !r.fails(trap) {
		r.cells[at] = value
	}
}

// fails tells whether it ends by a trap.
func (r *run) fails(trap api.Trap) bool {
	if trap == api.NoTrap {
		return false
	}
	r.trap, r.isOver = trap, true
	return true
}

// checkSound holds a run against an answer: P14.2.
func checkSound(t *testing.T, u *fcheck.Unit, o api.Options, a solve.Answer, r *run) {
	t.Helper()
	for _, s := range r.seen {
		if !a.Ahead[s.Point].Has(s.Cells) {
			t.Fatalf("%s%v, read %v: ahead of %d %v is not known", textOf(u), o, r.script, s.Point, s.Cells)
		}
	}
	if r.trap != api.NoTrap {
		want := api.Alarm{Point: r.seen[len(r.seen)-1].Point, Trap: r.trap}
		if !slices.Contains(a.Alarms, want) {
			t.Fatalf("%s%v, read %v: no alarm %v in %v", textOf(u), o, r.script, want, a.Alarms)
		}
	}
	if !r.isOver && !a.End.Has(r.cells) {
		t.Fatalf("%s%v, read %v: at the end %v is not known", textOf(u), o, r.script, r.cells)
	}
}

// What goes through programs here must do as fint does, or nothing is shown by it.
func TestRunsAreFints(t *testing.T) {
	d := dice(8)
	w := writer{&d}
	ended, errors := 0, 0
	for range 1500 {
		u := checked(t, w.program())
		r := runOf(&d, u, 40)
		want, e := fint.Run(u, r.script, 40)
		if e != api.OK {
			// Just where no step was left.
			if e != api.ErrSteps || !r.isOver || r.trap != api.NoTrap || len(r.seen) != 40 {
				t.Fatalf("%s%v: %d", textOf(u), r.script, e)
			}
			errors++
			continue
		}
		same := slices.EqualFunc(r.seen, want.Seen, func(a, b fint.Seen) bool { return a.Point == b.Point && slices.Equal(a.Cells, b.Cells) })
		if !same || !slices.Equal(r.cells, want.Cells) || r.trap != want.Trap || r.isOver != (want.Trap != api.NoTrap) {
			t.Fatalf("%s%v: otherwise than fint.Run", textOf(u), r.script)
		}
		ended++
	}
	if ended < 500 || errors < 100 {
		t.Error("too few that end, or that do not:", ended, errors)
	}
}
