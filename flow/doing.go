package flow

import (
	"plumbline/api"
	"plumbline/fcheck"
	"plumbline/judge"
	"plumbline/span"
	"plumbline/state"
)

// doing is a statement that is done to a state, and the traps that were come by.
type doing struct {
	api.Stmt
	unit  *fcheck.Unit
	state *state.State
	v     int      // the variable that is stored to
	decl  api.Decl // its declaration
	traps api.Traps
}

// doingOf is of no statement, if there is none at p: that is one of no kind.
func doingOf(u *fcheck.Unit, s *state.State, p api.Point) *doing {
	d := &doing{unit: u, state: s}
	d.Stmt, _ = u.At(p)
	if v, ok := u.Place(d.Name); ok {
		d.v, d.decl = v, u.Vars()[v]
	}
	return d
}

// ways are how a statement of each kind is done that has no others in it.
func (d *doing) ways() map[api.Do]func() *state.State {
	return map[api.Do]func() *state.State{
		api.Assign: d.assign,
		api.Read:   d.read,
	}
}

// assign asks the index first, then the value: behind what always traps nothing is asked.
func (d *doing) assign() *state.State {
	var value judge.Value
	if !d.findsCell() {
		goto unreached
	}
	value = d.ask(d.Value)
	if value.Int.Empty && value.Float.Empty {
		goto unreached
	}
	return d.store(value)
unreached:
	return d.state.Kill()
}

// ask is what is known of an expression; its traps are noted.
func (d *doing) ask(e api.Expr) judge.Value {
	value, traps := judge.Eval(d.unit, d.state, e)
	d.traps |= traps
	return value
}

// findsCell tells whether there may be something to store to: always, unless an index tells which cell of an array it is.
func (d *doing) findsCell() bool {
	for _, e := range d.Index {
		index, there := d.ask(e).Int, span.IntOf(0, int64(d.decl.Cells)-1)
		if !span.IntWithin(index, there) {
			d.traps |= 1 << (api.TrapIndex - 1)
		}
		if span.IntMeet(index, there).Empty {
			return false
		}
	}
	return true
}

func (d *doing) store(value judge.Value) *state.State {
	// Of several cells just one is stored to, and the others stay as they were.
	weak := d.decl.Cells > 1
	if d.decl.Type != api.IntType {
		return d.state.SetFloat(d.v, value.Float, weak)
	}
	if w, neg, c, ok := judge.Linear(d.unit, d.Value); ok && d.decl.Cells == 0 {
		// A part may trap where the whole would not, so that the value's range may know more than the other variable's.
		return d.state.CopyInt(d.v, w, neg, c).LessInt(d.v, value.Int)
	}
	return d.state.SetInt(d.v, value.Int, weak)
}

func (d *doing) read() *state.State {
	if d.decl.Type == api.IntType {
		return d.state.SetInt(d.v, span.IntJoin(intOf(d.Low), intOf(d.High)), false)
	}
	f := formatOf(d.decl.Type)
	return d.state.SetFloat(d.v, span.Join(f, floatOf(f, d.Low), floatOf(f, d.High)), false)
}
