package flow_test

import (
	"math"
	"slices"
	"testing"

	"plumbline/api"
	"plumbline/fcheck"
	"plumbline/fint"
	"plumbline/state"
)

// every has variables of each type, plain ones, arrays of several cells and of one.
const every = "int i; float f; double d; int ai[3]; float af[1]; double ad[2]; int j; float g; double e; int one[1]; "

// Their numbers.
const (
	i = iota
	f
	d
	ai
	af
	ad
	j
	g
	e
	one
	vars
)

const (
	mostDouble = math.MaxFloat64
	mostSingle = math.MaxFloat32
)

var (
	noInts   = api.IntRange{Empty: true}
	noFloats = api.FloatRange{Empty: true}
)

func ints(lo, hi int64) api.IntRange { return api.IntRange{Lo: lo, Hi: hi} }

func doubles(lo, hi float64) api.FloatRange {
	return api.FloatRange{Lo: math.Float64bits(lo), Hi: math.Float64bits(hi)}
}

func singles(lo, hi float32) api.FloatRange {
	return api.FloatRange{Lo: uint64(math.Float32bits(lo)), Hi: uint64(math.Float32bits(hi))}
}

// trapsOf is a set of traps.
func trapsOf(l ...api.Trap) api.Traps {
	var traps api.Traps
	for _, t := range l {
		traps |= 1 << (t - 1)
	}
	return traps
}

func unit(t *testing.T, text string) *fcheck.Unit {
	t.Helper()
	u, e := fcheck.Read(text)
	if e != api.OK {
		t.Fatalf("%s: %d", text, e)
	}
	return u
}

func checked(t *testing.T, p api.Program) *fcheck.Unit {
	t.Helper()
	u, e, at := fcheck.Check(p)
	if e != api.OK {
		t.Fatalf("%v: %d at %d", p, e, at)
	}
	return u
}

// told is what a state tells of a variable.
type told struct {
	ints   api.IntRange
	floats api.FloatRange
}

// tell is all that a state tells of its variables, one by one.
func tell(s *state.State) (l [vars]told) {
	for v := range l {
		l[v] = told{s.Int(v), s.Float(v)}
	}
	return l
}

// started is a state in which i, j, the floats and the arrays are of several numbers, so that all that changes is seen.
func started(u *fcheck.Unit) *state.State {
	s := state.First(u).SetInt(i, ints(0, 3), false).SetInt(j, ints(-5, 9), false)
	s = s.SetFloat(f, singles(-1, 2), false).SetFloat(d, doubles(-1, 2), false)
	s = s.SetFloat(g, singles(1, 4), false).SetFloat(e, doubles(1, 4), false)
	s = s.SetInt(ai, ints(10, 12), true).SetFloat(af, singles(5, 6), false).SetFloat(ad, doubles(5, 6), true)
	return s.SetInt(one, ints(10, 12), false)
}

// isOne tells whether all ranges of a state are of one number.
func isOne(u *fcheck.Unit, s *state.State) bool {
	for v, x := range u.Vars() {
		a, b := s.Int(v), s.Float(v)
		if x.Type == api.IntType && (a.Empty || a.Lo != a.Hi) || x.Type != api.IntType && (b.Empty || b.Lo != b.Hi) {
			return false
		}
	}
	return true
}

// firsts are where the cells of each variable begin.
func firsts(u *fcheck.Unit) []int {
	var l []int
	at := 0
	for _, x := range u.Vars() {
		l = append(l, at)
		at += max(x.Cells, 1)
	}
	return l
}

// assigned is what an Assign makes of cells, by fint's values: the cells behind it, or its trap.
func assigned(t *testing.T, u *fcheck.Unit, s api.Stmt, cells []fint.Value) ([]fint.Value, api.Trap) {
	t.Helper()
	v, _ := u.Place(s.Name)
	at := firsts(u)[v]
	for _, index := range s.Index {
		n, trap, errno := fint.Eval(u, index, cells)
		switch {
		case errno != api.OK:
			t.Fatal(errno)
		case trap != api.NoTrap:
			return nil, trap
		case n.Int < 0 || n.Int >= int64(u.Vars()[v].Cells):
			return nil, api.TrapIndex
		}
		at += int(n.Int)
	}
	value, trap, errno := fint.Eval(u, s.Value, cells)
	if errno != api.OK {
		t.Fatal(errno)
	}
	if trap != api.NoTrap {
		return nil, trap
	}
	behind := slices.Clone(cells)
	behind[at] = value
	return behind, api.NoTrap
}

// dice are numbers that look like chance but are always the same.
type dice uint64

func (d *dice) next() uint64 {
	*d ^= *d << 13
	*d ^= *d >> 7
	*d ^= *d << 17
	return uint64(*d) * 0x2545f4914f6cdd1d
}

func (d *dice) below(n int) int { return int(d.next() >> 33 % uint64(n)) }

func (d *dice) coin() bool { return d.below(2) == 0 }

func pick[T any](d *dice, l ...T) T { return l[d.below(len(l))] }

// inside is an int of a range.
func (d *dice) inside(a api.IntRange) int64 {
	switch d.below(4) {
	case 0:
		return a.Lo
	case 1:
		return a.Hi
	}
	return a.Lo + int64(d.next()%uint64(a.Hi-a.Lo+1))
}

// number is an int of any size.
func (d *dice) number() int64 {
	switch d.below(8) {
	case 0:
		return pick[int64](d, api.MinInt, api.MaxInt, api.MinInt+1, api.MaxInt-1)
	case 1, 2, 3, 4:
		return int64(d.below(9) - 4)
	}
	return int64(int32(d.next()>>32)) >> d.below(31)
}

// signOf is the bit of a type's floats that says that they are below 0.
func signOf(t api.Type) uint64 {
	if t == api.FloatType {
		return 1 << 31
	}
	return 1 << 63
}

// keyOf is where a float stands among all of its type; floatAt is the one that stands there.
func keyOf(t api.Type, bits uint64) int64 {
	if bits&signOf(t) != 0 {
		return -int64(bits &^ signOf(t))
	}
	return int64(bits)
}

func floatAt(t api.Type, key int64) uint64 {
	if key < 0 {
		return uint64(-key) | signOf(t)
	}
	return uint64(key)
}

// bitsOf is a float of a type that is near x.
func bitsOf(t api.Type, x float64) uint64 {
	if t == api.FloatType {
		return uint64(math.Float32bits(float32(x) + 0))
	}
	return math.Float64bits(x + 0)
}

// float is one of any size: small whole ones, great ones, those beside them.
func (d *dice) float(t api.Type) uint64 {
	most := mostDouble
	if t == api.FloatType {
		most = mostSingle
	}
	switch d.below(6) {
	case 0:
		return floatAt(t, pick[int64](d, 0, 1, -1))
	case 1:
		return bitsOf(t, pick(d, most, -most, most/2, -most/2, math.Sqrt(most)))
	case 2:
		return floatAt(t, keyOf(t, bitsOf(t, most))/1000*int64(d.below(1999)-999))
	case 3:
		return bitsOf(t, pick[float64](d, 1<<31, -1<<31, 1<<31-1, 1<<24+1, 1<<53))
	}
	return bitsOf(t, float64(d.below(41)-20)/4)
}

// floatIn is a float of a range.
func (d *dice) floatIn(t api.Type, a api.FloatRange) uint64 {
	lo, hi := keyOf(t, a.Lo), keyOf(t, a.Hi)
	if d.below(3) == 0 {
		return pick(d, a.Lo, a.Hi)
	}
	// As words without a sign the difference does not go round.
	return floatAt(t, lo+int64(d.next()%(uint64(hi)-uint64(lo)+1)))
}

func (d *dice) valueOf(t api.Type) fint.Value {
	if t == api.IntType {
		return fint.Value{Type: t, Int: d.number()}
	}
	return fint.Value{Type: t, Bits: d.float(t)}
}
