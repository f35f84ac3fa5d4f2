package analyze

import (
	"plumbline/api"
	"plumbline/fcheck"
	"plumbline/fint"
	"plumbline/solve"
)

// inquiry is a text that is asked about: what it is asked with, and what its steps find, each from what those ahead of it found.
type inquiry struct {
	src     []byte
	options api.Options
	script  []fint.Value
	most    int // statements that a run may take
	unit    *fcheck.Unit
	answer  solve.Answer
	result  fint.Result
}

// step is a part of an inquiry; with an error those behind it are not taken.
type step func(*inquiry) api.Errno

// analysis is the steps up to an answer, trial those up to the end of a run.
func analysis() [2]step {
	return [...]step{(*inquiry).read, (*inquiry).solve}
}

func trial() [2]step {
	return [...]step{(*inquiry).read, (*inquiry).run}
}

func (q *inquiry) take(steps [2]step) api.Errno {
	for _, do := range steps {
		if e := do(q); e != api.OK {
			return e
		}
	}
	return api.OK
}

func (q *inquiry) read() (e api.Errno) {
	q.unit, e = fcheck.Read(string(q.src))
	return e
}

func (q *inquiry) solve() (e api.Errno) {
	q.answer, e = solve.Solve(q.unit, q.options)
	return e
}

func (q *inquiry) run() (e api.Errno) {
	q.result, e = fint.Run(q.unit, q.script, q.most)
	return e
}
