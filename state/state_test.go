package state_test

import (
	"math"
	"slices"
	"testing"

	"plumbline/api"
	"plumbline/fint"
	"plumbline/span"
	"plumbline/state"
)

// wrongCells are cells that fit no state of the program `every`, as they are not right or not as many: each is zeros, but for one thing.
func wrongCells(t *testing.T) map[string][]fint.Value {
	zero := zeros(unit(t, every))
	return map[string][]fint.Value{
		"nil":                nil,
		"one too few":        zero[:len(zero)-1],
		"one too many":       append(slices.Clone(zero), whole(0)),
		"an int as a double": with(zero, 0, double(0)),
		"a float as an int":  with(zero, 1, whole(0)),
		"a double as float":  with(zero, 2, single(0)),
		"a float as double":  with(zero, 1, double(0)),
		"no type":            with(zero, 0, fint.Value{}),
		"a type that isn't":  with(zero, 0, fint.Value{Type: 9}),
		"an int with bits":   with(zero, 0, fint.Value{Type: api.IntType, Bits: 1}),
		"a float with int":   with(zero, 1, fint.Value{Type: api.FloatType, Int: 1}),
		"a double with int":  with(zero, 2, fint.Value{Type: api.DoubleType, Int: 1}),
		"above the ints":     with(zero, 0, whole(api.MaxInt+1)),
		"below the ints":     with(zero, 0, whole(api.MinInt-1)),
		"far off":            with(zero, 0, whole(math.MaxInt64)),
		"far off below":      with(zero, 0, whole(math.MinInt64)),
		"in an array":        with(zero, 5, whole(api.MaxInt+1)),
		"a float's -0":       with(zero, 1, fint.Value{Type: api.FloatType, Bits: minusSingle}),
		"a double's -0":      with(zero, 2, fint.Value{Type: api.DoubleType, Bits: minusZero}),
		"-0 in an array":     with(zero, 8, fint.Value{Type: api.DoubleType, Bits: minusZero}),
		"no float's bits":    with(zero, 1, fint.Value{Type: api.FloatType, Bits: 1 << 32}),
		"infinite":           with(zero, 1, single(float32(math.Inf(1)))),
		"infinite below":     with(zero, 2, double(math.Inf(-1))),
		"no number":          with(zero, 2, double(math.NaN())),
		"no number as float": with(zero, 1, fint.Value{Type: api.FloatType, Bits: 0x7fc00000}),
		"the last one":       with(zero, 10, double(0)),
	}
}

// P11.1: just cells that are all 0 fit.
func TestFirst(t *testing.T) {
	u := unit(t, every)
	s, zero := state.First(u), zeros(u)
	checkRight(t, u, s)
	checkHas(t, "First", s, zero, true)
	for v, x := range u.Vars() {
		first, many := placeOf(u, v)
		if x.Type == api.IntType {
			checkInts(t, "First", s, v, ints(0, 0))
		} else {
			checkFloats(t, "First", s, v, api.FloatRange{})
		}
		for k := range many {
			for _, other := range [...][]fint.Value{
				api.IntType:    wholes(1, -1, api.MaxInt, api.MinInt),
				api.FloatType:  {single(1), single(-math.SmallestNonzeroFloat32), single(math.SmallestNonzeroFloat32), single(math.MaxFloat32)},
				api.DoubleType: {double(1), double(-math.SmallestNonzeroFloat64), double(math.SmallestNonzeroFloat64), double(-math.MaxFloat64)},
			}[x.Type] {
				checkHas(t, "First", s, with(zero, first+k, other), false)
			}
		}
	}
	for what, cells := range wrongCells(t) {
		checkHas(t, "First, "+what, s, cells, false)
	}
	if state.First(nil) != nil || s.Bottom() {
		t.Error("First of nil, or one that is Bottom")
	}
}

// P11.1: all right cells fit.
func TestTop(t *testing.T) {
	u := unit(t, every)
	s := state.Top(u)
	checkRight(t, u, s)
	checkHas(t, "Top", s, zeros(u), true)
	d := dice(7)
	for range 500 {
		cells := zeros(u)
		for k, c := range cells {
			cells[k] = d.valueOf(c.Type)
		}
		checkHas(t, "Top", s, cells, true)
	}
	for what, cells := range wrongCells(t) {
		checkHas(t, "Top, "+what, s, cells, false)
	}
	for v, x := range u.Vars() {
		if x.Type == api.IntType {
			checkInts(t, "Top", s, v, span.IntTop())
		} else {
			checkFloats(t, "Top", s, v, span.Top(formatOf(x.Type)))
		}
	}
	if state.Top(nil) != nil {
		t.Error("Top of nil")
	}
	// No sum and no difference is known: all ends go with all ends.
	two := state.Top(unit(t, "int i; int j;"))
	for _, x := range []int64{api.MinInt, 0, api.MaxInt} {
		for _, y := range []int64{api.MinInt, 0, api.MaxInt} {
			checkHas(t, "Top", two, wholes(x, y), true)
		}
	}
}

// Of a program that declares nothing there is one row of cells, the empty one.
func TestNoDeclarations(t *testing.T) {
	u := unit(t, "")
	for _, s := range []*state.State{state.First(u), state.Top(u)} {
		if s == nil || s.Bottom() || !s.Has(nil) || !s.Has([]fint.Value{}) || s.Has(wholes(0)) {
			t.Error("the empty row of cells, or another one")
		}
		if k := s.Kill(); !k.Bottom() || k.Has(nil) || s.Bottom() {
			t.Error("Kill")
		}
		if s.Int(0) != noInts || s.Float(0) != noFloats || s.SetInt(0, ints(0, 0), false) != s || s.Relate(0, false, 0, false, 0) != s {
			t.Error("a variable that is none")
		}
		if !s.Same(state.Top(u)) || !s.Join(s).Same(s) || !s.Widen(s, 1).Same(s) {
			t.Error("two that are the same")
		}
	}
}

// Of floats alone, and of arrays of ints alone, no sums are kept: the rest holds all the same.
func TestWithoutPlaces(t *testing.T) {
	u := unit(t, "double x; int a[2]; float y;")
	s := state.First(u).SetInt(1, ints(-1, 4), true).SetFloat(0, doubles(1, 2), false)
	row := func(x float64, a, b int64) []fint.Value {
		return []fint.Value{double(x), whole(a), whole(b), single(0)}
	}
	checkHas(t, "set", s, row(1.5, 4, -1), true)
	checkHas(t, "set", s, row(1.5, 4, 5), false)
	checkHas(t, "set", s, row(0, 4, -1), false)
	r := s.Join(state.First(u))
	checkHas(t, "joined", r, row(0, 4, -1), true)
	if !s.Within(r) || r.Within(s) || !s.Widen(r).Has(row(0, 4, -1)) {
		t.Error("within")
	}
	if s.CopyInt(1, 1, false, 1) != s || s.Relate(1, false, 1, false, -9) != s {
		t.Error("arrays are copied, or related")
	}
	if !s.LessInt(1, ints(9, 9)).Bottom() {
		t.Error("Less leaves something")
	}
}

// P11.1, P1: a nil state answers what is Bottom, Empty, false; and itself.
func TestNilState(t *testing.T) {
	u := unit(t, every)
	var s *state.State
	if !s.Bottom() || s.Kill() != nil || s.Has(nil) || s.Has(zeros(u)) {
		t.Error("what is told of a nil state")
	}
	for _, v := range []int{-1, 0, 1, 2, 99} {
		if s.Int(v) != noInts || s.Float(v) != noFloats {
			t.Error("ranges of a nil state")
		}
		for _, weak := range []bool{false, true} {
			if s.SetInt(v, ints(0, 0), weak) != nil || s.SetInt(v, noInts, weak) != nil || s.SetFloat(v, doubles(0, 1), weak) != nil {
				t.Error("Set of a nil state")
			}
		}
		if s.LessInt(v, noInts) != nil || s.LessInt(v, ints(0, 0)) != nil || s.LessFloat(v, noFloats) != nil || s.CopyInt(v, 0, false, 0) != nil || s.Relate(v, false, 0, true, -1) != nil {
			t.Error("Less, CopyInt or Relate of a nil state")
		}
	}
	first := state.First(u)
	if s.Join(nil) != nil || s.Widen(nil) != nil || s.Join(first) != first || s.Widen(first, 1, 2) != first || first.Join(nil) != first || first.Widen(nil, 3) != first {
		t.Error("Join or Widen with a nil state")
	}
	kill := first.Kill()
	if s.Join(kill) != kill || kill.Join(nil) != kill || s.Widen(kill) != kill || kill.Widen(nil) != kill {
		t.Error("Join or Widen of nothing with nothing")
	}
	if !s.Within(nil) || !s.Within(first) || !s.Within(kill) || !kill.Within(nil) || first.Within(nil) {
		t.Error("Within of a nil state")
	}
	if !s.Same(nil) || !s.Same(kill) || !kill.Same(nil) || s.Same(first) || first.Same(nil) {
		t.Error("Same of a nil state")
	}
}

// P11.1: Kill; and what is Bottom stays so, whatever is done to it.
func TestKill(t *testing.T) {
	u := unit(t, every)
	for _, s := range []*state.State{state.First(u), state.Top(u)} {
		k := s.Kill()
		checkRight(t, u, k)
		if k == nil || !k.Bottom() || s.Bottom() || !k.Kill().Bottom() {
			t.Fatal("Kill is not Bottom")
		}
		checkHas(t, "Kill", k, zeros(u), false)
		for v := -1; v <= vars; v++ {
			if k.Int(v) != noInts || k.Float(v) != noFloats {
				t.Errorf("variable %d is %v, %v", v, k.Int(v), k.Float(v))
			}
			for _, weak := range []bool{false, true} {
				for _, r := range []*state.State{
					k.SetInt(v, ints(1, 2), weak), k.SetInt(v, noInts, weak), k.SetFloat(v, doubles(1, 2), weak), k.SetFloat(v, noFloats, weak),
					k.LessInt(v, ints(1, 2)), k.LessFloat(v, doubles(1, 2)), k.CopyInt(v, i, weak, 1), k.CopyInt(i, v, weak, 1), k.Relate(v, weak, j, weak, 1),
				} {
					if !r.Bottom() || r.Has(zeros(u)) || r.Int(i) != noInts || r.Float(d) != noFloats {
						t.Errorf("something fits what is made of a Bottom state, with %d", v)
					}
				}
			}
		}
		if k.Join(s) != s || s.Join(k) != s || k.Widen(s) != s || s.Widen(k, 1) != s || !k.Join(k).Bottom() || !k.Widen(k).Bottom() {
			t.Error("Join and Widen with a Bottom state")
		}
		if !k.Within(s) || s.Within(k) || !k.Within(k) || !k.Same(k) || !k.Same(state.Top(u).Kill()) || k.Same(s) || s.Same(k) {
			t.Error("Within and Same of a Bottom state")
		}
		// A Bottom one is within each, of unlike programs too.
		if !k.Within(state.First(unit(t, "int x;"))) {
			t.Error("a Bottom one is not within each")
		}
	}
}

// Words: of a variable that is none, or not of the kind that a call asks, nothing is known.
func TestOtherVariables(t *testing.T) {
	u := unit(t, every)
	s := state.First(u).SetInt(i, ints(1, 3), false)
	isInt := func(v int) bool { return v >= 0 && v < vars && u.Vars()[v].Type == api.IntType }
	isFloat := func(v int) bool { return v >= 0 && v < vars && !isInt(v) }
	isPlain := func(v int) bool { return isInt(v) && u.Vars()[v].Cells == 0 }
	for _, v := range []int{math.MinInt, -2, -1, i, f, d, ai, af, ad, j, one, vars, vars + 1, 1 << 20, math.MaxInt} {
		for _, weak := range []bool{false, true} {
			if !isInt(v) && (s.SetInt(v, ints(1, 2), weak) != s || s.SetInt(v, noInts, weak) != s || s.LessInt(v, noInts) != s || s.Int(v) != noInts) {
				t.Errorf("%d is taken for an int", v)
			}
			if !isFloat(v) && (s.SetFloat(v, api.FloatRange{}, weak) != s || s.SetFloat(v, noFloats, weak) != s || s.LessFloat(v, noFloats) != s || s.Float(v) != noFloats) {
				t.Errorf("%d is taken for a float", v)
			}
			if isPlain(v) {
				continue
			}
			for _, w := range []int{i, j, v, -1, vars} {
				if s.CopyInt(v, w, weak, 1) != s || s.CopyInt(w, v, weak, 1) != s || s.Relate(v, weak, w, weak, -9) != s || s.Relate(w, weak, v, weak, -9) != s {
					t.Errorf("%d and %d are taken for two ints", v, w)
				}
			}
		}
	}
}

// The chapter's example.
func TestExample(t *testing.T) {
	s := state.First(unit(t, "int i; double x;"))
	checkInts(t, "First", s, 0, ints(0, 0))
	checkFloats(t, "First", s, 1, api.FloatRange{})
	r := s.SetInt(0, ints(1, 3), false)
	checkInts(t, "SetInt", r, 0, ints(1, 3))
	checkInts(t, "ahead of SetInt", s, 0, ints(0, 0))
}
