package fparse

import (
	"slices"

	"plumbline/api"
)

func samePrograms(a, b api.Program) bool {
	return slices.Equal(a.Decls, b.Decls) && sameBlocks(a.Body, b.Body)
}

func sameBlocks(a, b []api.Stmt) bool {
	return slices.EqualFunc(a, b, sameStatements)
}

func sameStatements(a, b api.Stmt) bool {
	return a.Do == b.Do && a.Name == b.Name &&
		slices.EqualFunc(a.Index, b.Index, sameExpressions) &&
		sameExpressions(a.Value, b.Value) &&
		sameExpressions(a.Low, b.Low) && sameExpressions(a.High, b.High) &&
		sameBlocks(a.Then, b.Then) && sameBlocks(a.Else, b.Else)
}

func sameExpressions(a, b api.Expr) bool {
	return a.Op == b.Op && a.Text == b.Text && a.Type == b.Type &&
		slices.EqualFunc(a.Kids, b.Kids, sameExpressions)
}
