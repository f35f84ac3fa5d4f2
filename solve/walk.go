package solve

import (
	"plumbline/api"
	"plumbline/fcheck"
	"plumbline/flow"
	"plumbline/state"
)

// walk goes through a program with states. What it keeps of a point is of the last time that it was there: then each loop around it had a state that its block does not leave.
type walk struct {
	unit    *fcheck.Unit
	options api.Options
	ahead   []*state.State
	traps   map[api.Point]api.Traps
	steps   int
}

// statement is one with its point, and with those that stand in it.
type statement struct {
	do          api.Do
	at          api.Point
	then, other []statement
}

func walkOf(u *fcheck.Unit, o api.Options) *walk {
	return &walk{unit: u, options: o, ahead: make([]*state.State, u.Points()), traps: make(map[api.Point]api.Traps)}
}

// numbered is a block whose first point is at, and the point behind all of it.
func numbered(block []api.Stmt, at api.Point) ([]statement, api.Point) {
	var l []statement
	for _, s := range block {
		with := statement{do: s.Do, at: at}
		with.then, at = numbered(s.Then, at+1)
		with.other, at = numbered(s.Else, at)
		l = append(l, with)
	}
	return l, at
}

// isTired tells whether the budget is spent.
func (w *walk) isTired() bool {
	return w.steps >= w.options.Budget
}

// block is the state behind all of it.
func (w *walk) block(s *state.State, l []statement) *state.State {
	for _, x := range l {
		s = w.statement(s, x)
	}
	return s
}

func (w *walk) statement(s *state.State, x statement) *state.State {
	switch {
	case s.Bottom():
		return w.leaveOut(s, x)
	case x.do == api.If:
		yes, no := w.branch(s, x)
		return w.block(yes, x.then).Join(w.block(no, x.other))
	case x.do == api.While:
		return w.loop(s, x)
	}
	w.come(s, x)
	s, w.traps[x.at] = flow.Step(w.unit, s, x.at)
	return s
}

// come takes the step of coming to a point.
func (w *walk) come(s *state.State, x statement) {
	w.ahead[x.at] = s
	w.steps++
}

func (w *walk) branch(s *state.State, x statement) (yes, no *state.State) {
	w.come(s, x)
	yes, no, w.traps[x.at] = flow.Branch(w.unit, s, x.at)
	return yes, no
}

// leaveOut keeps of a statement that is not reached, and of those in it, nothing that was known at an earlier time. No step is taken by it.
func (w *walk) leaveOut(s *state.State, x statement) *state.State {
	w.ahead[x.at] = s
	delete(w.traps, x.at)
	w.block(s, x.then)
	w.block(s, x.other)
	return s
}
