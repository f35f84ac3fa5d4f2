package fint

import (
	"slices"

	"plumbline/api"
)

// machine runs the statements of a program in a memory.
type machine struct {
	memory
	does   [api.While + 1]func(*machine, statement)
	script []Value // that is not read yet
	most   int     // steps that it may take
	steps  []step
}

// statement is one with its point, and with those that stand in it.
type statement struct {
	api.Stmt
	at          api.Point
	then, other []statement
}

// step is a statement that was come to, and what it stored where (-1: nothing).
type step struct {
	at    api.Point
	place int
	value Value
}

// doings are how a statement of each kind is done.
func doings() [api.While + 1]func(*machine, statement) {
	return [...]func(*machine, statement){
		api.Assign: (*machine).assign,
		api.Read:   (*machine).read,
		api.If:     (*machine).choose,
		api.While:  (*machine).repeat,
	}
}

func (m *machine) run() {
	body, _ := numbered(m.unit.Program().Body, 0)
	m.block(body)
}

// numbered is a block whose first point is at, and the point behind all of it.
func numbered(block []api.Stmt, at api.Point) ([]statement, api.Point) {
	var l []statement
	for _, s := range block {
		with := statement{Stmt: s, at: at}
		with.then, at = numbered(s.Then, at+1)
		with.other, at = numbered(s.Else, at)
		l = append(l, with)
	}
	return l, at
}

func (m *machine) block(l []statement) {
	for _, s := range l {
		m.come(s.at)
		m.does[s.Do](m, s)
	}
}

// come takes the step of coming to a point.
func (m *machine) come(at api.Point) {
	if len(m.steps) == m.most {
		panic(api.ErrSteps)
	}
	m.steps = append(m.steps, step{at: at, place: -1})
}

// store is the last thing that a statement does: it comes to its end then.
func (m *machine) store(place int, v Value) {
	m.cells[place] = v
	last := &m.steps[len(m.steps)-1]
	last.place, last.value = place, v
}

func (m *machine) assign(s statement) {
	place := m.place(s.Name)
	for _, index := range s.Index {
		place = m.placeAt(s.Name, index)
	}
	m.store(place, m.value(s.Value))
}

func (m *machine) read(s statement) {
	place := m.place(s.Name)
	if len(m.script) == 0 {
		panic(api.ErrScript)
	}
	v := m.script[0]
	m.script = m.script[1:]
	t := m.cells[place].Type
	if !isRight(t, v) || order(v, boundOf(t, s.Low)) < 0 || order(v, boundOf(t, s.High)) > 0 {
		panic(api.ErrScript)
	}
	m.store(place, v)
}

// boundOf is an end of what is read, as one of its variable's type.
func boundOf(t api.Type, e api.Expr) Value {
	if e.Op == api.Neg {
		return alone(api.Neg, boundOf(t, e.Kids[0]))
	}
	return numberOf(t, e.Text)
}

func (m *machine) choose(s statement) {
	if m.truth(s.Value) {
		m.block(s.then)
	} else {
		m.block(s.other)
	}
}

func (m *machine) repeat(s statement) {
	for m.truth(s.Value) {
		m.block(s.then)
		m.come(s.at)
	}
}

// result is how a run ended that has no error.
func (m *machine) result(trap api.Trap) Result {
	r := Result{Trap: trap, Seen: m.seen(), Cells: m.cells, Steps: len(m.steps)}
	if trap != api.NoTrap {
		r.Point = m.steps[len(m.steps)-1].at
	}
	return r
}

// seen goes through the steps once more: so a run that is given up with an error never holds what it saw.
func (m *machine) seen() []Seen {
	cells := memoryOf(m.unit).cells
	l := make([]Seen, 0, len(m.steps))
	for _, s := range m.steps {
		l = append(l, Seen{Point: s.at, Cells: slices.Clone(cells)})
		if s.place >= 0 {
			cells[s.place] = s.value
		}
	}
	return l
}
