package judge

import (
	"strings"

	"plumbline/api"
	"plumbline/conv"
	"plumbline/linear"
	"plumbline/span"
)

// known is what is known of an expression: its range, and, of a float, a form whose numbers have its value among them.
type known struct {
	Value
	form linear.Form
}

func noValue(t api.Type) Value {
	return Value{Type: t, Int: api.IntRange{Empty: true}, Float: api.FloatRange{Empty: true}}
}

func knownInt(a api.IntRange) known {
	v := noValue(api.IntType)
	v.Int = a
	return known{Value: v}
}

// knownFloat is of a range of which nothing more is known.
func knownFloat(t api.Type, a api.FloatRange) known {
	v := noValue(t)
	v.Float = a
	return known{Value: v, form: linear.Of(asDoubles(t, a))}
}

// isNone tells whether there is no value at all: a trap comes always.
func (k known) isNone() bool {
	return k.Int.Empty && k.Float.Empty
}

func (k known) doubles() api.FloatRange {
	return asDoubles(k.Type, k.Float)
}

// asDoubles is a range of floats of a type as one of Doubles, which have all of their values.
func asDoubles(t api.Type, a api.FloatRange) api.FloatRange {
	r, _ := span.To(formatOf(t), api.Double, a)
	return r
}

// formatOf is that of floats of a type.
func formatOf(t api.Type) api.Format {
	if t == api.FloatType {
		return api.Single
	}
	return api.Double
}

// number is a Const.
func number(e api.Expr) known {
	if strings.Contains(e.Text, ".") {
		bits, _ := conv.Literal(api.Double, e.Text)
		return knownFloat(api.DoubleType, span.Of(api.Double, bits, bits))
	}
	n := intOf(e)
	return knownInt(span.IntOf(n, n))
}
