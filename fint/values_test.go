package fint_test

import (
	"math"
	"slices"
	"testing"

	"plumbline/api"
	"plumbline/fcheck"
	"plumbline/fint"
	"plumbline/fparse"
)

const (
	minusZero   = 1 << 63
	minusSingle = 1 << 31
)

// whole, double and single are values of each type.
func whole(n int64) fint.Value { return fint.Value{Type: api.IntType, Int: n} }

func double(x float64) fint.Value {
	return fint.Value{Type: api.DoubleType, Bits: math.Float64bits(x)}
}

func single(x float32) fint.Value {
	return fint.Value{Type: api.FloatType, Bits: uint64(math.Float32bits(x))}
}

func doubleOf(bits uint64) fint.Value { return fint.Value{Type: api.DoubleType, Bits: bits} }
func singleOf(bits uint64) fint.Value { return fint.Value{Type: api.FloatType, Bits: bits} }

func values(l ...fint.Value) []fint.Value { return l }

// seen is what is seen ahead of a point.
func seen(at api.Point, cells ...fint.Value) fint.Seen {
	return fint.Seen{Point: at, Cells: cells}
}

func unit(t *testing.T, text string) *fcheck.Unit {
	t.Helper()
	u, e := fcheck.Read(text)
	if e != api.OK {
		t.Fatalf("%s: %d", text, e)
	}
	return u
}

// tree is the expression that a text says.
func tree(t *testing.T, text string) api.Expr {
	t.Helper()
	p, e, at := fparse.Parse("x = " + text + ";")
	if e != api.OK {
		t.Fatalf("%s: %d at %d", text, e, at)
	}
	return p.Body[0].Value
}

func alikeSeen(a, b fint.Seen) bool {
	return a.Point == b.Point && slices.Equal(a.Cells, b.Cells)
}

func alike(a, b fint.Result) bool {
	return a.Trap == b.Trap && a.Point == b.Point && a.Steps == b.Steps &&
		slices.Equal(a.Cells, b.Cells) && slices.EqualFunc(a.Seen, b.Seen, alikeSeen)
}

// nothing tells whether a result is the zero one.
func nothing(r fint.Result) bool {
	return alike(r, fint.Result{}) && len(r.Cells) == 0 && len(r.Seen) == 0
}

// dice are numbers that look like chance but are always the same.
type dice uint64

func (d *dice) next() uint64 {
	*d ^= *d << 13
	*d ^= *d >> 7
	*d ^= *d << 17
	return uint64(*d) * 0x2545f4914f6cdd1d
}

func (d *dice) below(n int) int { return int(d.next() >> 33 % uint64(n)) }

func pick[T any](d *dice, l ...T) T { return l[d.below(len(l))] }
