package report

import (
	"strconv"
	"strings"

	"plumbline/api"
	"plumbline/solve"
	"plumbline/state"
)

// paper is a report that is written line by line: it has its text inside.
type paper struct {
	strings.Builder
	vars []api.Decl
}

func (p *paper) line(parts ...string) {
	for _, part := range parts {
		p.WriteString(part)
	}
	p.WriteString("\n")
}

func (p *paper) points(ahead []*state.State) {
	for n, s := range ahead {
		p.line("point ", strconv.Itoa(n), ": ", p.known(s))
	}
}

func (p *paper) end(s *state.State) {
	p.line("end: ", p.known(s))
}

// known is what a state tells of all variables.
func (p *paper) known(s *state.State) string {
	if s.Bottom() {
		return "unreached"
	}
	var parts []string
	seen := view{s}
	for v, d := range p.vars {
		parts = append(parts, told(d.Name, v, seen.endsOf(d.Type)))
	}
	return strings.Join(parts, " ")
}

// told is a variable with its range, whose ends are written by what is handed in for its kind.
func told(name string, v int, ends func(v int) (lo, hi string)) string {
	lo, hi := ends(v)
	return name + "=" + lo + ".." + hi
}

func (p *paper) alarms(l []api.Alarm) {
	for _, a := range l {
		// What is no trap has no word, and so no line.
		if word := wordOf(a.Trap); word != "" {
			p.line("alarm ", strconv.Itoa(int(a.Point)), " ", word)
		}
	}
}

// wordOf is the word of a trap; empty, if it is none.
func wordOf(t api.Trap) string {
	switch t {
	case api.TrapNan:
		return "nan"
	case api.TrapInf:
		return "inf"
	case api.TrapConv:
		return "conv"
	case api.TrapOver:
		return "over"
	case api.TrapZero:
		return "zero"
	case api.TrapIndex:
		return "index"
	}
	return ""
}

// verdict is what the whole comes to. An alarm that has no line speaks against it all the same.
func (p *paper) verdict(a solve.Answer) {
	if a.Tired {
		p.line("tired")
	}
	if Sound(a) {
		p.line("safe")
	} else {
		p.line("unsafe")
	}
}
