package fparse

import "plumbline/api"

// Levels of operators, from the weakest to the strongest; what stands ahead of one expression, and what needs no ( ) at all, is at the last one.
const (
	orLevel = iota
	andLevel
	compareLevel
	sumLevel
	productLevel
	signedLevel

	weakest = orLevel
)

// operator is one that stands between two expressions.
type operator struct {
	op    api.Op
	text  string
	level int
}

var operators = [...]operator{
	{api.Or, "||", orLevel},
	{api.And, "&&", andLevel},
	{api.Lt, "<", compareLevel},
	{api.Le, "<=", compareLevel},
	{api.Gt, ">", compareLevel},
	{api.Ge, ">=", compareLevel},
	{api.Eq, "==", compareLevel},
	{api.Ne, "!=", compareLevel},
	{api.Add, "+", sumLevel},
	{api.Sub, "-", sumLevel},
	{api.Mul, "*", productLevel},
	{api.Div, "/", productLevel},
}

// operatorOf is the operator of a sign; the zero one, if it is none.
func operatorOf(text string) operator {
	for _, o := range operators {
		if o.text == text {
			return o
		}
	}
	return operator{}
}

// operatorFor is the operator that is written for an Op between two; one without a text, if it is none.
func operatorFor(op api.Op) operator {
	for _, o := range operators {
		if o.op == op {
			return o
		}
	}
	return operator{op: op, level: signedLevel}
}

// typeOf is the type of a word; NoType, if it is none.
func typeOf(word string) api.Type {
	for t := api.IntType; t <= api.DoubleType; t++ {
		if wordOf(t) == word {
			return t
		}
	}
	return api.NoType
}

// wordOf is the word of a type; empty, if it is none.
func wordOf(t api.Type) string {
	switch t {
	case api.IntType:
		return "int"
	case api.FloatType:
		return "float"
	case api.DoubleType:
		return "double"
	}
	return ""
}
