// Package soft is floats, by whole numbers. See ../../shared/doc/02-soft.md.
package soft

import (
	"plumbline/api"
	"plumbline/wide"
)

// Add is the sum of a and b, rounded.
func Add(f api.Format, m api.Mode, a, b uint64) uint64 {
	k := formatOf(f)
	x, y := k.split(a), k.split(b)
	switch {
	case x.noNumber() || y.noNumber():
		return k.nan()
	case x.isInfinite() && y.isInfinite() && x.below != y.below:
		return k.nan()
	case x.isInfinite():
		return a
	case y.isInfinite():
		return b
	}
	return sum(f, m, x, y)
}

// Sub is the difference of a and b, rounded.
func Sub(f api.Format, m api.Mode, a, b uint64) uint64 {
	return Add(f, m, a, Neg(f, b))
}

// Mul is the product of a and b, rounded.
func Mul(f api.Format, m api.Mode, a, b uint64) uint64 {
	k := formatOf(f)
	x, y := k.split(a), k.split(b)
	below := x.below != y.below
	switch {
	case x.noNumber() || y.noNumber():
		return k.nan()
	case x.isInfinite() && y.isZero() || x.isZero() && y.isInfinite():
		return k.nan()
	case x.isInfinite() || y.isInfinite():
		return k.signed(below, k.infinite)
	}
	return Round(f, m, below, wide.Mul(x.whole, y.whole), x.power+y.power, false)
}

// Div is the quotient of a and b, rounded.
func Div(f api.Format, m api.Mode, a, b uint64) uint64 {
	k := formatOf(f)
	x, y := k.split(a), k.split(b)
	below := x.below != y.below
	switch {
	case x.noNumber() || y.noNumber():
		return k.nan()
	case x.isInfinite() && y.isInfinite() || x.isZero() && y.isZero():
		return k.nan()
	case x.isInfinite() || y.isZero():
		return k.signed(below, k.infinite)
	case y.isInfinite():
		return k.signed(below, 0)
	}
	n, power, more := quotient(x, y)
	return Round(f, m, below, n, power, more)
}

// Sqrt is the root of a, rounded.
func Sqrt(f api.Format, m api.Mode, a uint64) uint64 {
	k := formatOf(f)
	x := k.split(a)
	switch {
	case x.noNumber():
		return k.nan()
	case x.isZero():
		return a
	case x.below:
		return k.nan()
	case x.isInfinite():
		return a
	}
	n, power, more := root(x)
	return Round(f, m, false, n, power, more)
}

// Neg is a with the other sign.
func Neg(f api.Format, a uint64) uint64 {
	k := formatOf(f)
	if k.split(a).noNumber() {
		return k.nan()
	}
	return a ^ k.sign
}

// Abs is a without its sign.
func Abs(f api.Format, a uint64) uint64 {
	k := formatOf(f)
	if k.split(a).noNumber() {
		return k.nan()
	}
	return a &^ k.sign
}

// Compare is -1 if a is below b, 1 if it is above, else 0; false if one is no number.
func Compare(f api.Format, a, b uint64) (int, bool) {
	k := formatOf(f)
	if k.split(a).noNumber() || k.split(b).noNumber() {
		return 0, false
	}
	x, y := k.order(a), k.order(b)
	switch {
	case x < y:
		return -1, true
	case x > y:
		return 1, true
	}
	return 0, true
}

// Class is what a is.
func Class(f api.Format, a uint64) api.Class {
	return formatOf(f).class(a)
}

// Finite is whether a is a finite float.
func Finite(f api.Format, a uint64) bool {
	switch Class(f, a) {
	case api.IsZero, api.IsSub, api.IsNormal:
		return true
	}
	return false
}

// Round is n, and a quarter, if more, times 2 to the e, below 0, if below: rounded.
func Round(f api.Format, m api.Mode, below bool, n api.U128, e int, more bool) uint64 {
	k := formatOf(f)
	e = min(max(e, -farthest), farthest)
	if more {
		n, e = withQuarter(n, e)
	}
	if n == (api.U128{}) {
		return k.signed(below, 0)
	}
	return k.signed(below, k.size(roundingOf(m), below, n, e))
}

// Most is the greatest finite float.
func Most(f api.Format) uint64 {
	return formatOf(f).most()
}

// Nan is the float that stands for no number.
func Nan(f api.Format) uint64 {
	return formatOf(f).nan()
}
