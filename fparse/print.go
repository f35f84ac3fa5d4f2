package fparse

import (
	"strconv"
	"strings"

	"plumbline/api"
)

// printer writes a program, line by line.
type printer struct {
	strings.Builder
	margin string
}

// textOf is the text of a right program.
func textOf(p api.Program) string {
	var w printer
	for _, d := range p.Decls {
		w.line(wordOf(d.Type), " ", d.Name, cellsText(d.Cells), ";")
	}
	w.statements(p.Body)
	return w.String()
}

func cellsText(cells int) string {
	if cells == 0 {
		return ""
	}
	return "[" + strconv.Itoa(cells) + "]"
}

func (w *printer) line(parts ...string) {
	w.WriteString(w.margin)
	for _, part := range parts {
		w.WriteString(part)
	}
	w.WriteString("\n")
}

func (w *printer) statements(l []api.Stmt) {
	for _, s := range l {
		w.statement(s)
	}
}

func (w *printer) statement(s api.Stmt) {
	switch s.Do {
	case api.Assign:
		w.line(s.Name, indexText(s.Index), " = ", expressionText(s.Value), ";")
	case api.Read:
		w.line("read ", s.Name, " in [", expressionText(s.Low), ", ", expressionText(s.High), "];")
	case api.If:
		w.line("if (", expressionText(s.Value), ") {")
		w.within(s.Then)
		if len(s.Else) > 0 {
			w.line("} else {")
			w.within(s.Else)
		}
		w.line("}")
	case api.While:
		w.line("while (", expressionText(s.Value), ") {")
		w.within(s.Then)
		w.line("}")
	}
}

func (w *printer) within(l []api.Stmt) {
	outside := w.margin
	w.margin += "  "
	w.statements(l)
	w.margin = outside
}

// indexText is of an index that an expression or a statement has, or has not.
func indexText(index []api.Expr) string {
	text := ""
	for _, e := range index {
		text += "[" + expressionText(e) + "]"
	}
	return text
}

func expressionText(e api.Expr) string {
	switch e.Op {
	case api.Const, api.Var, api.Cell:
		return e.Text + indexText(e.Kids)
	case api.Neg:
		return "-" + kidText(e.Kids[0], signedLevel)
	case api.Not:
		return "!" + kidText(e.Kids[0], signedLevel)
	case api.Abs:
		return "abs(" + expressionText(e.Kids[0]) + ")"
	case api.Sqrt:
		return "sqrt(" + expressionText(e.Kids[0]) + ")"
	case api.Cast:
		return wordOf(e.Type) + "(" + expressionText(e.Kids[0]) + ")"
	}
	// Operators go to the left: on the right one of the same level would go into what stands ahead of it.
	o := operatorFor(e.Op)
	return kidText(e.Kids[0], o.level) + " " + o.text + " " + kidText(e.Kids[1], o.level+1)
}

// kidText is of a Kid: in ( ), if it is weaker than that level.
func kidText(e api.Expr, level int) string {
	text := expressionText(e)
	if operatorFor(e.Op).level < level {
		return "(" + text + ")"
	}
	return text
}
