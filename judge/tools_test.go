package judge_test

import (
	"math"
	"slices"
	"testing"

	"plumbline/api"
	"plumbline/fcheck"
	"plumbline/fint"
	"plumbline/fparse"
	"plumbline/judge"
	"plumbline/state"
)

// every has variables of each type, plain ones and arrays.
const every = "int i; float f; double d; int ai[3]; float af[1]; double ad[2]; int j; float g; double e; "

// Their numbers.
const (
	i = iota
	f
	d
	ai
	af
	ad
	j
	g
	e
	vars
)

const (
	mostDouble = math.MaxFloat64
	mostSingle = math.MaxFloat32
	leastOne   = math.SmallestNonzeroFloat64
	leastHalf  = math.SmallestNonzeroFloat32 // of Singles
)

var (
	noInts   = api.IntRange{Empty: true}
	noFloats = api.FloatRange{Empty: true}
	nothing  = judge.Value{Int: noInts, Float: noFloats}
)

func ints(lo, hi int64) api.IntRange { return api.IntRange{Lo: lo, Hi: hi} }

func doubles(lo, hi float64) api.FloatRange {
	return api.FloatRange{Lo: math.Float64bits(lo), Hi: math.Float64bits(hi)}
}

func singles(lo, hi float32) api.FloatRange {
	return api.FloatRange{Lo: uint64(math.Float32bits(lo)), Hi: uint64(math.Float32bits(hi))}
}

// intValue, singleValue and doubleValue are what is known of expressions of each type.
func intValue(a api.IntRange) judge.Value {
	return judge.Value{Type: api.IntType, Int: a, Float: noFloats}
}

func singleValue(a api.FloatRange) judge.Value {
	return judge.Value{Type: api.FloatType, Int: noInts, Float: a}
}

func doubleValue(a api.FloatRange) judge.Value {
	return judge.Value{Type: api.DoubleType, Int: noInts, Float: a}
}

// trapsOf is a set of traps.
func trapsOf(l ...api.Trap) api.Traps {
	var traps api.Traps
	for _, t := range l {
		traps |= 1 << (t - 1)
	}
	return traps
}

func unit(t *testing.T, text string) *fcheck.Unit {
	t.Helper()
	u, e := fcheck.Read(text)
	if e != api.OK {
		t.Fatalf("%s: %d", text, e)
	}
	return u
}

// tree is the expression, or the condition, that a text says.
func tree(t *testing.T, text string) api.Expr {
	t.Helper()
	p, e, at := fparse.Parse("x = " + text + ";")
	if e != api.OK {
		t.Fatalf("%s: %d at %d", text, e, at)
	}
	return p.Body[0].Value
}

// variable, constant and node are expressions.
func variable(name string) api.Expr { return api.Expr{Op: api.Var, Text: name} }

func constant(digits string) api.Expr { return api.Expr{Op: api.Const, Text: digits} }

func node(op api.Op, kids ...api.Expr) api.Expr {
	return api.Expr{Op: op, Kids: slices.Clone(kids)}
}

// tell is all that a state tells of its variables, one by one.
func tell(s *state.State) (l [vars]judge.Value) {
	for v := range l {
		l[v].Int, l[v].Float = s.Int(v), s.Float(v)
	}
	return l
}

// dice are numbers that look like chance but are always the same.
type dice uint64

func (d *dice) next() uint64 {
	*d ^= *d << 13
	*d ^= *d >> 7
	*d ^= *d << 17
	return uint64(*d) * 0x2545f4914f6cdd1d
}

func (d *dice) below(n int) int { return int(d.next() >> 33 % uint64(n)) }

func (d *dice) coin() bool { return d.below(2) == 0 }

func pick[T any](d *dice, l ...T) T { return l[d.below(len(l))] }

// inside is an int of a range.
func (d *dice) inside(a api.IntRange) int64 {
	switch d.below(4) {
	case 0:
		return a.Lo
	case 1:
		return a.Hi
	}
	return a.Lo + int64(d.next()%uint64(a.Hi-a.Lo+1))
}

// number is an int of any size.
func (d *dice) number() int64 {
	switch d.below(8) {
	case 0:
		return pick[int64](d, api.MinInt, api.MaxInt, api.MinInt+1, api.MaxInt-1)
	case 1, 2, 3:
		return int64(d.below(9) - 4)
	}
	return int64(int32(d.next()>>32)) >> d.below(31)
}

// signOf is the bit of a type's floats that says that they are below 0.
func signOf(t api.Type) uint64 {
	if t == api.FloatType {
		return 1 << 31
	}
	return 1 << 63
}

// keyOf is where a float stands among all of its type; floatAt is the one that stands there.
func keyOf(t api.Type, bits uint64) int64 {
	if bits&signOf(t) != 0 {
		return -int64(bits &^ signOf(t))
	}
	return int64(bits)
}

func floatAt(t api.Type, key int64) uint64 {
	if key < 0 {
		return uint64(-key) | signOf(t)
	}
	return uint64(key)
}

// bitsOf is a float of a type that is near x.
func bitsOf(t api.Type, x float64) uint64 {
	if t == api.FloatType {
		return uint64(math.Float32bits(float32(x) + 0))
	}
	return math.Float64bits(x + 0)
}

// float is one of any size: small whole ones, great ones, those beside them.
func (d *dice) float(t api.Type) uint64 {
	most := mostDouble
	if t == api.FloatType {
		most = mostSingle
	}
	switch d.below(6) {
	case 0:
		return floatAt(t, pick[int64](d, 0, 1, -1))
	case 1:
		return bitsOf(t, pick(d, most, -most, most/2, -most/2, math.Sqrt(most)))
	case 2:
		return floatAt(t, keyOf(t, bitsOf(t, most))/1000*int64(d.below(1999)-999))
	case 3:
		return bitsOf(t, pick[float64](d, 1<<31, -1<<31, 1<<31-1, 1<<24+1, 1<<53))
	}
	return bitsOf(t, float64(d.below(41)-20)/4)
}

// floatIn is a float of a range.
func (d *dice) floatIn(t api.Type, a api.FloatRange) uint64 {
	lo, hi := keyOf(t, a.Lo), keyOf(t, a.Hi)
	switch d.below(4) {
	case 0:
		return pick(d, a.Lo, a.Hi)
	case 1:
		if x := keyOf(t, d.float(t)); lo <= x && x <= hi {
			return floatAt(t, x)
		}
	}
	// As words without a sign the difference does not go round.
	return floatAt(t, lo+int64(d.next()%(uint64(hi)-uint64(lo)+1)))
}

func (d *dice) valueOf(t api.Type) fint.Value {
	if t == api.IntType {
		return fint.Value{Type: t, Int: d.number()}
	}
	return fint.Value{Type: t, Bits: d.float(t)}
}

// ahead are the first cells of the variables of `every`, and how many each one has.
func ahead(u *fcheck.Unit) (first, many []int) {
	at := 0
	for _, x := range u.Vars() {
		first, many = append(first, at), append(many, max(x.Cells, 1))
		at += max(x.Cells, 1)
	}
	return first, many
}
