package solve_test

import (
	"math"
	"slices"
	"strconv"
	"testing"

	"plumbline/api"
	"plumbline/fcheck"
	"plumbline/fint"
	"plumbline/fparse"
	"plumbline/solve"
	"plumbline/state"
)

var noInts = api.IntRange{Empty: true}

func ints(lo, hi int64) api.IntRange { return api.IntRange{Lo: lo, Hi: hi} }

func doubles(lo, hi float64) api.FloatRange {
	return api.FloatRange{Lo: math.Float64bits(lo), Hi: math.Float64bits(hi)}
}

func singles(lo, hi float32) api.FloatRange {
	return api.FloatRange{Lo: uint64(math.Float32bits(lo)), Hi: uint64(math.Float32bits(hi))}
}

func unit(t *testing.T, text string) *fcheck.Unit {
	t.Helper()
	u, e := fcheck.Read(text)
	if e != api.OK {
		t.Fatalf("%s: %d", text, e)
	}
	return u
}

func checked(t *testing.T, p api.Program) *fcheck.Unit {
	t.Helper()
	u, e, at := fcheck.Check(p)
	if e != api.OK {
		t.Fatalf("%v: %d at %d", p, e, at)
	}
	return u
}

// textOf is a program, as it is read.
func textOf(u *fcheck.Unit) string {
	text, _ := fparse.Print(u.Program())
	return text
}

// solved is the answer, which has no error, and is shaped as each one must be.
func solved(t *testing.T, u *fcheck.Unit, o api.Options) solve.Answer {
	t.Helper()
	a, e := solve.Solve(u, o)
	if e != api.OK {
		t.Fatalf("%s%v: %d", textOf(u), o, e)
	}
	checkShape(t, u, o, a)
	return a
}

// checkShape holds an answer against P14.1, P14.3 and P14.5, as far as they do not hang on the program.
func checkShape(t *testing.T, u *fcheck.Unit, o api.Options, a solve.Answer) {
	t.Helper()
	if len(a.Ahead) != u.Points() || slices.Contains(a.Ahead, nil) || a.End == nil {
		t.Fatalf("%s%v: %d states, End %v", textOf(u), o, len(a.Ahead), a.End)
	}
	if a.Steps < 0 || a.Steps > o.Budget+64*u.Points() || a.Tired != (a.Steps >= o.Budget) {
		t.Fatalf("%s%v: %d steps, %v", textOf(u), o, a.Steps, a.Tired)
	}
	for k, x := range a.Alarms {
		if x.Point < 0 || int(x.Point) >= u.Points() || x.Trap < api.TrapNan || x.Trap > api.TrapIndex {
			t.Fatalf("%s%v: the alarm %v", textOf(u), o, x)
		}
		if k > 0 && !isBelow(a.Alarms[k-1], x) {
			t.Fatalf("%s%v: alarms out of order: %v", textOf(u), o, a.Alarms)
		}
		if a.Ahead[x.Point].Bottom() {
			t.Fatalf("%s%v: the alarm %v where nothing is reached", textOf(u), o, x)
		}
	}
}

func isBelow(a, b api.Alarm) bool {
	return a.Point < b.Point || a.Point == b.Point && a.Trap < b.Trap
}

// isSame tells whether two answers of one program are the same.
func isSame(a, b solve.Answer) bool {
	return slices.EqualFunc(a.Ahead, b.Ahead, (*state.State).Same) && a.End.Same(b.End) &&
		slices.Equal(a.Alarms, b.Alarms) && a.Steps == b.Steps && a.Tired == b.Tired
}

// isNothing tells whether an answer is that beside an error.
func isNothing(a solve.Answer) bool {
	return len(a.Ahead) == 0 && a.End == nil && len(a.Alarms) == 0 && a.Steps == 0 && !a.Tired
}

// hasJust tells whether all ranges of a state are of one number, those of the cells, of a program without arrays.
func hasJust(s *state.State, cells []fint.Value) bool {
	for v, c := range cells {
		want, wantFloat := noInts, api.FloatRange{Empty: true}
		if c.Type == api.IntType {
			want = ints(c.Int, c.Int)
		} else {
			wantFloat = api.FloatRange{Lo: c.Bits, Hi: c.Bits}
		}
		if s.Int(v) != want || s.Float(v) != wantFloat {
			return false
		}
	}
	return s.Has(cells)
}

// dice are numbers that look like chance but are always the same.
type dice uint64

func (d *dice) next() uint64 {
	*d ^= *d << 13
	*d ^= *d >> 7
	*d ^= *d << 17
	return uint64(*d) * 0x2545f4914f6cdd1d
}

func (d *dice) below(n int) int { return int(d.next() >> 33 % uint64(n)) }

func (d *dice) coin() bool { return d.below(2) == 0 }

func pick[T any](d *dice, l ...T) T { return l[d.below(len(l))] }

// bound is an end of what is read, by the library's own numbers.
func bound(t api.Type, e api.Expr) fint.Value {
	sign := 1.0
	if e.Op == api.Neg {
		e, sign = e.Kids[0], -1
	}
	switch t {
	case api.IntType:
		n, _ := strconv.ParseInt(e.Text, 10, 64)
		return fint.Value{Type: t, Int: n * int64(sign)}
	case api.FloatType:
		x, _ := strconv.ParseFloat(e.Text, 32)
		return fint.Value{Type: t, Bits: uint64(math.Float32bits(float32(x*sign) + 0))}
	}
	x, _ := strconv.ParseFloat(e.Text, 64)
	return fint.Value{Type: t, Bits: math.Float64bits(x*sign + 0)}
}

// between is a value from one to another one: an end, one beside it, or any.
func (d *dice) between(lo, hi fint.Value) fint.Value {
	if lo.Type == api.IntType {
		lo.Int = d.among(lo.Int, hi.Int)
		return lo
	}
	sign := uint64(1) << 63
	if lo.Type == api.FloatType {
		sign = 1 << 31
	}
	lo.Bits = floatAt(sign, d.among(keyOf(sign, lo.Bits), keyOf(sign, hi.Bits)))
	return lo
}

// among is a number from one to another one.
func (d *dice) among(lo, hi int64) int64 {
	switch d.below(5) {
	case 0:
		return lo
	case 1:
		return hi
	case 2:
		if lo <= 0 && hi >= 0 {
			return 0
		}
	}
	// As words without a sign the difference does not go round.
	return lo + int64(d.next()%(uint64(hi)-uint64(lo)+1))
}

// keyOf is where a float stands among all of its format; floatAt is the one that stands there.
func keyOf(sign, bits uint64) int64 {
	if bits&sign != 0 {
		return -int64(bits &^ sign)
	}
	return int64(bits)
}

func floatAt(sign uint64, key int64) uint64 {
	if key < 0 {
		return uint64(-key) | sign
	}
	return uint64(key)
}
