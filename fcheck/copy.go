package fcheck

import (
	"slices"

	"plumbline/api"
)

func copyOfProgram(p api.Program) api.Program {
	return api.Program{Decls: slices.Clone(p.Decls), Body: copyOfBlock(p.Body)}
}

func copyOfBlock(l []api.Stmt) []api.Stmt {
	var c []api.Stmt
	for _, s := range l {
		whole := copyOfHead(s)
		whole.Then, whole.Else = copyOfBlock(s.Then), copyOfBlock(s.Else)
		c = append(c, whole)
	}
	return c
}

// copyOfHead is of a statement without what stands in it.
func copyOfHead(s api.Stmt) api.Stmt {
	return api.Stmt{
		Do: s.Do, Name: s.Name, Index: copyOfAll(s.Index),
		Value: copyOfExpr(s.Value), Low: copyOfExpr(s.Low), High: copyOfExpr(s.High),
	}
}

func copyOfAll(l []api.Expr) []api.Expr {
	var c []api.Expr
	for _, e := range l {
		c = append(c, copyOfExpr(e))
	}
	return c
}

func copyOfExpr(e api.Expr) api.Expr {
	e.Kids = copyOfAll(e.Kids)
	return e
}
