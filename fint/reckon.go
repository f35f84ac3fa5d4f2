package fint

import (
	"plumbline/api"
	"plumbline/conv"
	"plumbline/soft"
)

// whole is the int that a reckoning came to.
func whole(n int64) Value {
	if n < api.MinInt || n > api.MaxInt {
		panic(api.TrapOver)
	}
	return Value{Type: api.IntType, Int: n}
}

// float is the float that a reckoning came to.
func float(t api.Type, bits uint64) Value {
	f := formatOf(t)
	switch soft.Class(f, bits) {
	case api.IsNan:
		panic(api.TrapNan)
	case api.IsInf:
		panic(api.TrapInf)
	}
	return Value{Type: t, Bits: conv.Plain(f, bits)}
}

// cast is a as one of that type.
func cast(to api.Type, a Value) Value {
	switch {
	case to == a.Type:
		return a
	case to == api.IntType:
		n, fits := conv.ToInt(formatOf(a.Type), a.Bits)
		if !fits {
			panic(api.TrapConv)
		}
		return whole(n)
	case a.Type == api.IntType:
		return float(to, conv.FromInt(formatOf(to), api.Near, a.Int))
	case to == api.FloatType:
		return float(to, conv.Narrow(api.Near, a.Bits))
	}
	return float(to, conv.Widen(a.Bits))
}

// alone is what Neg, Abs and Sqrt make of one.
func alone(op api.Op, a Value) Value {
	if a.Type == api.IntType {
		if op == api.Neg || a.Int < 0 {
			return whole(-a.Int)
		}
		return a
	}
	f := formatOf(a.Type)
	switch op {
	case api.Neg:
		return float(a.Type, soft.Neg(f, a.Bits))
	case api.Abs:
		return float(a.Type, soft.Abs(f, a.Bits))
	}
	return float(a.Type, soft.Sqrt(f, api.Near, a.Bits))
}

// together is what Add, Sub, Mul and Div make of two of one type.
func together(op api.Op, a, b Value) Value {
	if a.Type == api.IntType {
		return whole(intTogether(op, a.Int, b.Int))
	}
	return float(a.Type, floatTogether(op, formatOf(a.Type), a.Bits, b.Bits))
}

func intTogether(op api.Op, a, b int64) int64 {
	switch op {
	case api.Add:
		return a + b
	case api.Sub:
		return a - b
	case api.Mul:
		return a * b
	}
	if b == 0 {
		panic(api.TrapZero)
	}
	return a / b
}

func floatTogether(op api.Op, f api.Format, a, b uint64) uint64 {
	switch op {
	case api.Add:
		return soft.Add(f, api.Near, a, b)
	case api.Sub:
		return soft.Sub(f, api.Near, a, b)
	case api.Mul:
		return soft.Mul(f, api.Near, a, b)
	}
	return soft.Div(f, api.Near, a, b)
}
