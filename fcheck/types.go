package fcheck

import (
	"strings"

	"plumbline/api"
	"plumbline/conv"
)

// truth is the type of what holds or does not hold.
const truth = api.NoType

// reckoned is the type of what is reckoned from Kids of these types, which all must be alike.
func reckoned(e api.Expr, kids []api.Type) (api.Type, api.Errno) {
	t := kids[0]
	for _, k := range kids {
		if k != t {
			return api.NoType, api.ErrType
		}
	}
	if (t == truth) != ofTruths(e.Op) {
		return api.NoType, api.ErrType
	}
	switch e.Op {
	case api.Sqrt:
		if t == api.IntType {
			return api.NoType, api.ErrType
		}
	case api.Cast:
		t = e.Type
	case api.Lt, api.Le, api.Gt, api.Ge, api.Eq, api.Ne:
		t = truth
	}
	return t, api.OK
}

func ofTruths(op api.Op) bool {
	return op == api.And || op == api.Or || op == api.Not
}

// numberType is the type of a number where nothing asks for another one.
func numberType(digits string) api.Type {
	if strings.Contains(digits, ".") {
		return api.DoubleType
	}
	return api.IntType
}

// numberOf is where a number lies among those of its type: an int's value, a float's bits, which rise with the values from 0 on.
func numberOf(t api.Type, digits string) (int64, api.Errno) {
	if t == api.IntType {
		return conv.Int(digits)
	}
	f := api.Double
	if t == api.FloatType {
		f = api.Single
	}
	bits, e := conv.Literal(f, digits)
	return int64(bits), e
}

// boundOf is where an end of what is read lies among the numbers of its variable's type.
func boundOf(t api.Type, e api.Expr) (int64, api.Errno) {
	if e.Op == api.Neg {
		n, errno := boundOf(t, e.Kids[0])
		return -n, errno
	}
	if (numberType(e.Text) == api.IntType) != (t == api.IntType) {
		return 0, api.ErrType
	}
	return numberOf(t, e.Text)
}
