package state_test

import (
	"math"
	"testing"

	"plumbline/api"
	"plumbline/span"
	"plumbline/state"
)

// Ranges that are not right: nothing is set to them, and nothing is left out by them.
func wrongInts() []api.IntRange {
	return []api.IntRange{
		{Lo: 1, Hi: 0}, {Lo: 0, Hi: api.MaxInt + 1}, {Lo: api.MinInt - 1, Hi: 0}, {Empty: true, Lo: 1, Hi: 1}, {Empty: true, Hi: 5},
		{Lo: math.MinInt64, Hi: math.MaxInt64}, {Lo: api.MaxInt + 1, Hi: api.MaxInt + 2},
	}
}

func wrongFloats(f api.Format) []api.FloatRange {
	least, infinite, nan := doubles(2, 1), math.Float64bits(math.Inf(1)), math.Float64bits(math.NaN())
	sign := uint64(minusZero)
	if f == api.Single {
		least, infinite, nan, sign = singles(2, 1), uint64(math.Float32bits(float32(math.Inf(1)))), 0x7fc00000, minusSingle
	}
	return []api.FloatRange{
		least, {Lo: 0, Hi: infinite}, {Lo: infinite | sign, Hi: 0}, {Lo: nan, Hi: nan}, {Lo: sign, Hi: sign}, {Lo: sign, Hi: 1}, {Lo: 1 | sign, Hi: sign},
		{Empty: true, Lo: 1, Hi: 1}, {Empty: true, Lo: 1}, {Lo: 0, Hi: math.MaxUint64},
	}
}

// P11.2: not weak the range is just the one that is set, weak the Join; the other ones stay.
func TestSetInt(t *testing.T) {
	u := unit(t, every)
	start := state.First(u).SetInt(i, ints(-2, 5), false).SetInt(j, ints(7, 7), false).SetFloat(d, doubles(1, 2), false)
	for _, a := range []api.IntRange{ints(0, 0), ints(1, 3), ints(-9, -9), ints(api.MinInt, api.MaxInt), ints(api.MaxInt, api.MaxInt), ints(api.MinInt, api.MinInt), ints(-2, 5), ints(6, 8)} {
		for _, v := range []int{i, j, one} {
			was := start.Int(v)
			checkSet(t, start, start.SetInt(v, a, false), v, a)
			checkSet(t, start, start.SetInt(v, a, true), v, span.IntJoin(was, a))
		}
		checkSet(t, start, start.SetInt(ai, a, true), ai, span.IntJoin(ints(0, 0), a))
	}
}

// checkSet tells whether just the range of v is another one, and that the one that it must be.
func checkSet(t *testing.T, s, r *state.State, v int, want any) {
	t.Helper()
	for w := range vars {
		a, b := s.Int(w), s.Float(w)
		if w == v {
			switch x := want.(type) {
			case api.IntRange:
				a = x
			case api.FloatRange:
				b = x
			}
		}
		if r.Int(w) != a || r.Float(w) != b {
			t.Errorf("variable %d set to %v: %d is %v, %v; want %v, %v", v, want, w, r.Int(w), r.Float(w), a, b)
		}
	}
	if r.Bottom() {
		t.Errorf("variable %d set to %v: Bottom", v, want)
	}
}

func TestSetFloat(t *testing.T) {
	u := unit(t, every)
	start := state.First(u).SetFloat(f, singles(-2, 5), false).SetFloat(d, doubles(-2, 5), false).SetInt(i, ints(1, 3), false)
	for _, a := range []api.FloatRange{{}, doubles(1, 1), doubles(1, 3), doubles(-math.MaxFloat64, math.MaxFloat64), {Lo: 1, Hi: 1}, doubles(-9, -8)} {
		checkSet(t, start, start.SetFloat(d, a, false), d, a)
		checkSet(t, start, start.SetFloat(d, a, true), d, span.Join(api.Double, doubles(-2, 5), a))
		checkSet(t, start, start.SetFloat(ad, a, true), ad, span.Join(api.Double, api.FloatRange{}, a))
	}
	for _, a := range []api.FloatRange{{}, singles(1, 1), singles(1, 3), singles(-math.MaxFloat32, math.MaxFloat32), {Lo: 1, Hi: 1}, singles(-9, -8)} {
		for _, v := range []int{f, af} {
			was := start.Float(v)
			checkSet(t, start, start.SetFloat(v, a, false), v, a)
			checkSet(t, start, start.SetFloat(v, a, true), v, span.Join(api.Single, was, a))
		}
	}
}

// P11.2: what is Empty, or not right, is set to by nobody: weak all stays as it was.
func TestSetToNothing(t *testing.T) {
	u := unit(t, every)
	s := state.First(u).SetInt(i, ints(1, 3), false)
	for _, v := range []int{i, ai, j, one} {
		for _, a := range append(wrongInts(), noInts) {
			if r := s.SetInt(v, a, false); !r.Bottom() || r.Has(zeros(u)) {
				t.Errorf("variable %d set to %v: not Bottom", v, a)
			}
			if s.SetInt(v, a, true) != s {
				t.Errorf("variable %d set to %v, weak: not the state itself", v, a)
			}
		}
	}
	for _, v := range []int{f, d, af, ad} {
		format := formatOf(u.Vars()[v].Type)
		for _, a := range append(wrongFloats(format), noFloats) {
			if r := s.SetFloat(v, a, false); !r.Bottom() || r.Has(zeros(u)) {
				t.Errorf("variable %d set to %v: not Bottom", v, a)
			}
			if s.SetFloat(v, a, true) != s {
				t.Errorf("variable %d set to %v, weak: not the state itself", v, a)
			}
		}
	}
	if s.Bottom() || !s.Has(with(zeros(u), 0, whole(2))) {
		t.Error("the state was changed")
	}
}

// P11.2: what fits, where cells of a variable are set.
func TestSetFits(t *testing.T) {
	u := unit(t, every)
	first, zero := state.First(u), zeros(u)
	strong, weak := first.SetInt(i, ints(1, 3), false), first.SetInt(i, ints(2, 3), true)
	for n := int64(-1); n <= 4; n++ {
		checkHas(t, "SetInt", strong, with(zero, 0, whole(n)), n >= 1 && n <= 3)
	}
	for _, n := range []int64{0, 2, 3} {
		checkHas(t, "SetInt, weak", weak, with(zero, 0, whole(n)), true)
	}
	for _, n := range []int64{-1, 4} {
		checkHas(t, "SetInt, weak", weak, with(zero, 0, whole(n)), false)
	}
	checkHas(t, "SetInt", strong, with(zero, 3, whole(2)), false)

	// Of an array one, several or all of its cells are set.
	array := first.SetInt(ai, ints(5, 6), true)
	floats := first.SetFloat(ad, doubles(0.5, 1), true)
	for set := range 8 {
		cells := zero
		for k := range 3 {
			if set>>k&1 == 1 {
				cells = with(cells, 3+k, whole(5+int64(k%2)))
			}
		}
		checkHas(t, "SetInt of an array, weak", array, cells, true)
		if set < 4 {
			cells = zero
			for k := range 2 {
				if set>>k&1 == 1 {
					cells = with(cells, 7+k, double(0.75))
				}
			}
			checkHas(t, "SetFloat of an array, weak", floats, cells, true)
		}
	}
	checkHas(t, "SetInt of an array", array, with(zero, 4, whole(7)), false)
	checkHas(t, "SetFloat of an array", floats, with(zero, 8, double(1.5)), false)
}

// P11.2: of an array that has several cells those that are not set stay as they were, also where it is not said that it is weak.
func TestSetOfArrays(t *testing.T) {
	u := unit(t, every)
	first, zero := state.First(u), zeros(u)
	ofInts, ofFloats := first.SetInt(ai, ints(5, 6), false), first.SetFloat(ad, doubles(0.5, 1), false)
	for k := range 3 {
		checkHas(t, "one cell of an array", ofInts, with(zero, 3+k, whole(6)), true)
	}
	checkHas(t, "all cells of an array", ofInts, with(zero, 3, wholes(5, 6, 5)...), true)
	for k := range 2 {
		checkHas(t, "one cell of an array", ofFloats, with(zero, 7+k, double(0.75)), true)
	}
	checkHas(t, "all cells of an array", ofFloats, with(zero, 7, double(0.5), double(1)), true)
	// Within what was, and where there are no other cells, the range is just the one that is set.
	top := state.First(u).SetInt(ai, ints(1, 2), true).SetFloat(ad, doubles(0, 2), true)
	checkInts(t, "an array", top.SetInt(ai, ints(-1, 4), false), ai, ints(-1, 4))
	checkFloats(t, "an array", top.SetFloat(ad, doubles(-1, 4), false), ad, doubles(-1, 4))
	checkInts(t, "one cell", top.SetInt(one, ints(3, 4), false), one, ints(3, 4))
	checkFloats(t, "one cell", top.SetFloat(af, singles(3, 4), false), af, singles(3, 4))
}

// P11.2: Less: the Meet, or Bottom; of what is not right nothing is left out.
func TestLessInt(t *testing.T) {
	u := unit(t, every)
	s := state.First(u).SetInt(i, ints(-2, 5), false).SetInt(ai, ints(0, 9), true).SetInt(one, ints(-2, 5), false)
	for _, v := range []int{i, one} {
		for _, c := range []struct{ a, want api.IntRange }{
			{ints(-2, 5), ints(-2, 5)}, {ints(api.MinInt, api.MaxInt), ints(-2, 5)}, {ints(0, 3), ints(0, 3)}, {ints(-9, 0), ints(-2, 0)}, {ints(4, 99), ints(4, 5)},
			{ints(5, 5), ints(5, 5)}, {ints(5, 9), ints(5, 5)}, {ints(-9, -2), ints(-2, -2)}, {ints(6, 9), noInts}, {ints(-9, -3), noInts}, {ints(api.MaxInt, api.MaxInt), noInts}, {noInts, noInts},
		} {
			r := s.LessInt(v, c.a)
			checkInts(t, "LessInt", r, v, c.want)
			if !c.want.Empty {
				checkSet(t, s, r, v, c.want)
			}
		}
	}
	checkInts(t, "LessInt of an array", s.LessInt(ai, ints(3, 12)), ai, ints(3, 9))
	checkInts(t, "LessInt of an array", s.LessInt(ai, ints(10, 12)), ai, noInts)
	for _, a := range wrongInts() {
		for _, v := range []int{i, ai, j, one} {
			if r := s.LessInt(v, a); !s.Within(r) || tell(r) != tell(s) {
				t.Errorf("LessInt of %d by %v leaves something out", v, a)
			}
		}
	}
	zero := zeros(u)
	r := s.LessInt(ai, ints(3, 12))
	checkHas(t, "LessInt", r, with(zero, 3, wholes(3, 9, 4)...), true)
	checkHas(t, "LessInt", r, with(zero, 3, wholes(3, 2, 4)...), false)
}

func TestLessFloat(t *testing.T) {
	u := unit(t, every)
	s := state.First(u).SetFloat(f, singles(-2, 5), false).SetFloat(d, doubles(-2, 5), false).SetFloat(ad, doubles(0, 9), true)
	for _, c := range []struct{ lo, hi, from, to float64 }{
		{-2, 5, -2, 5}, {-99, 99, -2, 5}, {0, 3, 0, 3}, {-9, 0, -2, 0}, {4.5, 99, 4.5, 5}, {5, 9, 5, 5}, {-9, -2, -2, -2}, {0.5, 0.5, 0.5, 0.5},
	} {
		r := s.LessFloat(d, doubles(c.lo, c.hi))
		checkSet(t, s, r, d, doubles(c.from, c.to))
		r = s.LessFloat(f, singles(float32(c.lo), float32(c.hi)))
		checkSet(t, s, r, f, singles(float32(c.from), float32(c.to)))
	}
	checkFloats(t, "LessFloat", s.LessFloat(d, doubles(math.Nextafter(5, 6), 9)), d, noFloats)
	checkFloats(t, "LessFloat", s.LessFloat(d, noFloats), d, noFloats)
	checkFloats(t, "LessFloat", s.LessFloat(f, singles(-9, -3)), f, noFloats)
	checkFloats(t, "LessFloat", s.LessFloat(f, noFloats), f, noFloats)
	checkFloats(t, "LessFloat of an array", s.LessFloat(ad, doubles(3, 12)), ad, doubles(3, 9))
	checkFloats(t, "LessFloat of an array", s.LessFloat(ad, doubles(10, 12)), ad, noFloats)
	for _, v := range []int{f, d, af, ad} {
		for _, a := range wrongFloats(formatOf(u.Vars()[v].Type)) {
			if r := s.LessFloat(v, a); !s.Within(r) || tell(r) != tell(s) {
				t.Errorf("LessFloat of %d by %v leaves something out", v, a)
			}
		}
	}
}
