package flow

import (
	"plumbline/api"
	"plumbline/conv"
	"plumbline/span"
)

// intOf is an end of what is read, as a range of one number.
func intOf(e api.Expr) api.IntRange {
	if e.Op == api.Neg {
		a, _ := span.IntOne(api.Neg, intOf(e.Kids[0]))
		return a
	}
	n, _ := conv.Int(e.Text)
	return span.IntOf(n, n)
}

// floatOf is likewise, of the format of what is read: of a Single it is rounded once, not as a Double first.
func floatOf(f api.Format, e api.Expr) api.FloatRange {
	if e.Op == api.Neg {
		a, _ := span.One(f, api.Neg, floatOf(f, e.Kids[0]))
		return a
	}
	bits, _ := conv.Literal(f, e.Text)
	return span.Of(f, bits, bits)
}

// formatOf is that of floats of a type.
func formatOf(t api.Type) api.Format {
	if t == api.FloatType {
		return api.Single
	}
	return api.Double
}
