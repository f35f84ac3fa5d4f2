package state_test

import (
	"math"
	"slices"
	"testing"

	"plumbline/api"
	"plumbline/fcheck"
	"plumbline/fint"
	"plumbline/span"
	"plumbline/state"
)

const (
	minusZero   = 1 << 63
	minusSingle = 1 << 31
	far         = 1 << 33 // of what CopyInt and Relate may add
)

// every has variables of each type, plain ones and arrays.
const every = "int i; float f; double d; int ai[3]; float af[1]; double ad[2]; int j; int one[1];"

// Their numbers.
const (
	i = iota
	f
	d
	ai
	af
	ad
	j
	one
	vars
)

var (
	noInts   = api.IntRange{Empty: true}
	noFloats = api.FloatRange{Empty: true}
)

func ints(lo, hi int64) api.IntRange { return api.IntRange{Lo: lo, Hi: hi} }

func doubles(lo, hi float64) api.FloatRange {
	return api.FloatRange{Lo: math.Float64bits(lo), Hi: math.Float64bits(hi)}
}

func singles(lo, hi float32) api.FloatRange {
	return api.FloatRange{Lo: uint64(math.Float32bits(lo)), Hi: uint64(math.Float32bits(hi))}
}

// whole, double and single are values of each type.
func whole(n int64) fint.Value { return fint.Value{Type: api.IntType, Int: n} }

func double(x float64) fint.Value {
	return fint.Value{Type: api.DoubleType, Bits: math.Float64bits(x)}
}

func single(x float32) fint.Value {
	return fint.Value{Type: api.FloatType, Bits: uint64(math.Float32bits(x))}
}

func wholes(l ...int64) []fint.Value {
	var cells []fint.Value
	for _, n := range l {
		cells = append(cells, whole(n))
	}
	return cells
}

func unit(t *testing.T, text string) *fcheck.Unit {
	t.Helper()
	u, e := fcheck.Read(text)
	if e != api.OK {
		t.Fatalf("%s: %d", text, e)
	}
	return u
}

// zeros are the cells at the beginning.
func zeros(u *fcheck.Unit) []fint.Value {
	var cells []fint.Value
	for _, v := range u.Vars() {
		for range max(v.Cells, 1) {
			cells = append(cells, fint.Value{Type: v.Type})
		}
	}
	return cells
}

// placeOf is where a variable's cells begin, and how many there are.
func placeOf(u *fcheck.Unit, v int) (first, many int) {
	for k, x := range u.Vars() {
		if k == v {
			return first, max(x.Cells, 1)
		}
		first += max(x.Cells, 1)
	}
	panic(v)
}

// with is cells with others from a place on.
func with(cells []fint.Value, at int, others ...fint.Value) []fint.Value {
	l := slices.Clone(cells)
	copy(l[at:], others)
	return l
}

func formatOf(t api.Type) api.Format {
	if t == api.FloatType {
		return api.Single
	}
	return api.Double
}

// told is all that a state tells of its variables, one by one, beside some that are none.
type told struct {
	bottom bool
	ints   [26]api.IntRange
	floats [26]api.FloatRange
}

func tell(s *state.State) told {
	r := told{bottom: s.Bottom()}
	for v := range r.ints {
		r.ints[v], r.floats[v] = s.Int(v-1), s.Float(v-1)
	}
	return r
}

// checkRight holds what is promised of every state.
func checkRight(t *testing.T, u *fcheck.Unit, s *state.State) {
	t.Helper()
	for v, x := range u.Vars() {
		a, b := s.Int(v), s.Float(v)
		isInt := x.Type == api.IntType
		if !span.IntRight(a) || !span.Right(formatOf(x.Type), b) {
			t.Fatalf("%s has %v, %v, which is not right", x.Name, a, b)
		}
		if a.Empty == (isInt && !s.Bottom()) || b.Empty == (!isInt && !s.Bottom()) {
			t.Fatalf("%s of type %d has %v, %v; Bottom: %v", x.Name, x.Type, a, b, s.Bottom())
		}
	}
	if !s.Within(s) || !s.Same(s) {
		t.Fatal("a state is not within itself")
	}
}

func checkInts(t *testing.T, what string, s *state.State, v int, want api.IntRange) {
	t.Helper()
	if got := s.Int(v); got != want || s.Bottom() != want.Empty {
		t.Errorf("%s: variable %d is %v, Bottom %v; want %v", what, v, got, s.Bottom(), want)
	}
}

func checkFloats(t *testing.T, what string, s *state.State, v int, want api.FloatRange) {
	t.Helper()
	if got := s.Float(v); got != want || s.Bottom() != want.Empty {
		t.Errorf("%s: variable %d is %v, Bottom %v; want %v", what, v, got, s.Bottom(), want)
	}
}

func checkHas(t *testing.T, what string, s *state.State, cells []fint.Value, want bool) {
	t.Helper()
	if s.Has(cells) != want {
		t.Errorf("%s: Has(%v) is %v", what, cells, !want)
	}
}

// dice are numbers that look like chance but are always the same.
type dice uint64

func (d *dice) next() uint64 {
	*d ^= *d << 13
	*d ^= *d >> 7
	*d ^= *d << 17
	return uint64(*d) * 0x2545f4914f6cdd1d
}

func (d *dice) below(n int) int { return int(d.next() >> 33 % uint64(n)) }

func (d *dice) coin() bool { return d.below(2) == 0 }

func pick[T any](d *dice, l ...T) T { return l[d.below(len(l))] }

// inside is an int of a range.
func (d *dice) inside(a api.IntRange) int64 {
	switch d.below(4) {
	case 0:
		return a.Lo
	case 1:
		return a.Hi
	}
	return a.Lo + int64(d.next()%uint64(a.Hi-a.Lo+1))
}

// number is an int of any size.
func (d *dice) number() int64 {
	if d.below(6) == 0 {
		return pick[int64](d, api.MinInt, api.MaxInt, api.MinInt+1, api.MaxInt-1, 0)
	}
	return int64(int32(d.next()>>32)) >> d.below(31)
}

// around is a range that has n.
func (d *dice) around(n int64) api.IntRange {
	x := d.number()
	if d.coin() {
		x = min(max(n+int64(d.below(9))-4, api.MinInt), api.MaxInt)
	}
	return ints(min(n, x), max(n, x))
}

// keyOf is where a float stands among all of its format, and floatAt is the float that stands there; 0 stands at 0.
func keyOf(t api.Type, bits uint64) int64 {
	sign := signOf(t)
	if bits&sign != 0 {
		return -int64(bits &^ sign)
	}
	return int64(bits)
}

func floatAt(t api.Type, key int64) uint64 {
	if key < 0 {
		return uint64(-key) | signOf(t)
	}
	return uint64(key)
}

func signOf(t api.Type) uint64 {
	if t == api.FloatType {
		return minusSingle
	}
	return minusZero
}

func mostKey(t api.Type) int64 {
	if t == api.FloatType {
		return int64(math.Float32bits(math.MaxFloat32))
	}
	return int64(math.Float64bits(math.MaxFloat64))
}

// floatIn is a float of a range.
func (d *dice) floatIn(t api.Type, a api.FloatRange) uint64 {
	lo, hi := keyOf(t, a.Lo), keyOf(t, a.Hi)
	if d.below(3) == 0 {
		return pick(d, a.Lo, a.Hi)
	}
	// As words without a sign the difference does not go round.
	return floatAt(t, lo+int64(d.next()%(uint64(hi)-uint64(lo)+1)))
}

// float is one of any size.
func (d *dice) float(t api.Type) uint64 {
	if d.below(4) == 0 {
		return floatAt(t, pick[int64](d, 0, 1, -1, mostKey(t), -mostKey(t)))
	}
	most := mostKey(t)
	return d.floatIn(t, api.FloatRange{Lo: floatAt(t, -most), Hi: floatAt(t, most)})
}

// aroundFloat is a range that has x.
func (d *dice) aroundFloat(t api.Type, x uint64) api.FloatRange {
	a, b := keyOf(t, x), keyOf(t, d.float(t))
	return api.FloatRange{Lo: floatAt(t, min(a, b)), Hi: floatAt(t, max(a, b))}
}

// valueOf is a value of a type that is any, and right.
func (d *dice) valueOf(t api.Type) fint.Value {
	if t == api.IntType {
		return whole(d.number())
	}
	return fint.Value{Type: t, Bits: d.float(t)}
}
