package state_test

import (
	"math"
	"slices"
	"testing"

	"plumbline/api"
	"plumbline/span"
	"plumbline/state"
)

// P11.4: ranges are, by Join, those of both joined; what fits one of both fits.
func TestJoin(t *testing.T) {
	u := unit(t, every)
	first, zero := state.First(u), zeros(u)
	s := first.SetInt(i, ints(1, 3), false).SetFloat(d, doubles(1, 2), false).SetInt(ai, ints(0, 4), true)
	r := first.SetInt(i, ints(7, 9), false).SetFloat(d, doubles(-1, 0), false).SetFloat(f, singles(3, 4), false).SetFloat(ad, doubles(-1, 1), true)
	for _, both := range []*state.State{s.Join(r), r.Join(s)} {
		checkRight(t, u, both)
		checkInts(t, "Join", both, i, ints(1, 9))
		checkInts(t, "Join", both, j, ints(0, 0))
		checkInts(t, "Join", both, ai, ints(0, 4))
		checkInts(t, "Join", both, one, ints(0, 0))
		checkFloats(t, "Join", both, d, doubles(-1, 2))
		checkFloats(t, "Join", both, f, singles(0, 4))
		checkFloats(t, "Join", both, af, api.FloatRange{})
		checkFloats(t, "Join", both, ad, doubles(-1, 1))
		if !s.Within(both) || !r.Within(both) || both.Within(s) || both.Within(r) {
			t.Error("Join has not both, or not more")
		}
		checkHas(t, "Join", both, with(zero, 0, whole(2), single(0), double(1)), true)
		checkHas(t, "Join", both, with(zero, 0, whole(8), single(3), double(-1)), true)
		checkHas(t, "Join", both, with(zero, 0, whole(10), single(3), double(-1)), false)
	}
	if !s.Join(s).Same(s) {
		t.Error("Join of one with itself")
	}
}

// P11.4: of a nil one, and of a Bottom one, the other one.
func TestJoinWithNothing(t *testing.T) {
	s := pair(t, ints(1, 3), ints(0, 5)).Relate(0, false, 1, true, 0)
	for _, nothing := range []*state.State{nil, s.Kill()} {
		for what, r := range map[string]*state.State{
			"Join": s.Join(nothing), "Join of nothing": nothing.Join(s), "Widen": s.Widen(nothing), "Widen of nothing": nothing.Widen(s),
			"Widen, thresholds": s.Widen(nothing, 2, 3), "Widen of nothing, thresholds": nothing.Widen(s, 2, 3),
		} {
			if !r.Same(s) || tell(r) != tell(s) {
				t.Errorf("%s is not the other one", what)
			}
		}
	}
}

// What both know of two ints their Join knows; what one of them knows only, it does not.
func TestJoinOfSums(t *testing.T) {
	s := pair(t, ints(0, 3), ints(0, 0)).CopyInt(1, 0, false, 0)
	r := pair(t, ints(6, 9), ints(0, 0)).CopyInt(1, 0, false, 1)
	both := s.Join(r)
	checkInts(t, "Join", both, 0, ints(0, 9))
	checkInts(t, "Join", both, 1, ints(0, 10))
	for x := int64(0); x <= 9; x++ {
		checkHas(t, "a copy", both, wholes(x, x), true)
		checkHas(t, "below the copy", both, wholes(x, x-1), false)
		checkHas(t, "above the copy by 2", both, wholes(x, x+2), false)
	}
	checkHas(t, "above the copy by 1", both, wholes(7, 8), true)
	less := s.Join(pair(t, ints(6, 9), ints(0, 10)))
	checkHas(t, "what one of both says nothing of", less, wholes(7, 0), true)
}

// What both know of two ints Widen keeps, where it does not change.
func TestWidenOfSums(t *testing.T) {
	s := pair(t, ints(0, 0), ints(0, 0))
	r := pair(t, ints(0, 1), ints(0, 0)).CopyInt(1, 0, false, 0)
	wide := s.Widen(r)
	checkInts(t, "Widen", wide, 0, ints(0, api.MaxInt))
	checkInts(t, "Widen", wide, 1, ints(0, api.MaxInt))
	checkHas(t, "a copy", wide, wholes(77, 77), true)
	checkHas(t, "no copy", wide, wholes(77, 78), false)
	checkInts(t, "Widen, where one is known", wide.LessInt(0, ints(5, 5)), 1, ints(5, 5))
	if !r.Within(wide) || !s.Within(wide) {
		t.Error("Widen has not both")
	}
}

// P11.4: Widen has what fits one of both, whatever the thresholds are, and goes to them.
func TestWiden(t *testing.T) {
	u := unit(t, every)
	first := state.First(u)
	s := first.SetInt(i, ints(0, 3), false).SetFloat(d, doubles(1, 2), false).SetInt(j, ints(5, 5), false).SetInt(ai, ints(0, 1), true)
	r := s.SetInt(i, ints(-1, 4), false).SetFloat(d, doubles(1, 3), false).SetInt(ai, ints(0, 4), true)
	for _, c := range []struct {
		thresholds []int64
		want       api.IntRange
	}{
		{nil, ints(api.MinInt, api.MaxInt)}, {[]int64{10}, ints(api.MinInt, 10)}, {[]int64{4}, ints(api.MinInt, 4)}, {[]int64{3}, ints(api.MinInt, api.MaxInt)},
		{[]int64{100, -5, 10, -1, 50}, ints(-1, 10)}, {[]int64{-2, -3}, ints(-2, api.MaxInt)}, {[]int64{math.MaxInt64, math.MinInt64, api.MaxInt + 1}, ints(api.MinInt, api.MaxInt)},
	} {
		given := slices.Clone(c.thresholds)
		w := s.Widen(r, given...)
		checkRight(t, u, w)
		checkInts(t, "Widen", w, i, c.want)
		checkInts(t, "Widen", w, j, ints(5, 5))
		checkInts(t, "Widen of an array", w, ai, span.IntWiden(ints(0, 1), ints(0, 4), c.thresholds...))
		checkFloats(t, "Widen", w, d, span.Widen(api.Double, doubles(1, 2), doubles(1, 3)))
		checkFloats(t, "Widen", w, f, api.FloatRange{})
		if !s.Within(w) || !r.Within(w) || !s.Join(r).Within(w) || !slices.Equal(given, c.thresholds) {
			t.Errorf("Widen with %v has not both, or changes what is handed in", c.thresholds)
		}
	}
	if w := s.Widen(s, 1, 2); !w.Same(s) {
		t.Error("Widen of one with itself")
	}
	if w := r.Widen(s, 1, 2); !w.Same(r) {
		t.Error("Widen with one that is within it")
	}
}

// A loop that counts is at its end behind few Widens: nothing changes then any more.
func TestWidenComesToAnEnd(t *testing.T) {
	s := pair(t, ints(0, 0), ints(0, 0))
	for range 8 {
		behind := s.CopyInt(0, 0, false, 1).CopyInt(1, 1, true, 3)
		if behind.Within(s) {
			return
		}
		s = s.Widen(s.Join(behind), 100)
	}
	t.Error("Widen goes on and on")
}

// P11.4: of unlike programs calls end, that is all.
func TestUnlikePrograms(t *testing.T) {
	texts := []string{"", "int i;", "int k;", "double i;", "int i; int k;", "int i[2];", "float f; int i;", every}
	for _, a := range texts {
		for _, b := range texts {
			s, r := state.Top(unit(t, a)), state.First(unit(t, b)).SetInt(0, ints(1, 2), true)
			for _, x := range []*state.State{s.Join(r), s.Widen(r, 5), r.Join(s), r.Widen(s)} {
				x.Has(zeros(unit(t, a)))
				x.Has(zeros(unit(t, b)))
			}
			s.Same(r)
			if a == b && (!r.Within(s) || !r.Within(s.Join(r))) {
				t.Errorf("%q: not within", a)
			}
		}
	}
	// Two units of one program have states of one program.
	s, r := state.First(unit(t, every)), state.First(unit(t, every))
	if !s.Same(r) || !s.Join(r).Same(s) {
		t.Error("the same program, read twice")
	}
}

// P11.4: Within and Same, by ranges and by sums.
func TestWithin(t *testing.T) {
	u := unit(t, every)
	top := state.Top(u)
	states := []*state.State{
		state.First(u), top, top.Kill(),
		top.LessInt(i, ints(0, 9)), top.LessInt(i, ints(0, 9)).LessInt(j, ints(0, 9)),
		top.LessInt(i, ints(0, 9)).LessInt(j, ints(0, 9)).Relate(i, false, j, true, 0),
		top.LessInt(i, ints(0, 9)).LessInt(j, ints(0, 9)).Relate(i, false, j, false, 9),
		top.LessInt(i, ints(0, 9)).CopyInt(j, i, false, 0),
		top.LessFloat(d, doubles(0, 1)), top.LessFloat(ad, doubles(0, 1)), top.LessFloat(f, singles(0, 1)), top.LessInt(ai, ints(0, 0)), top.LessInt(one, ints(1, 1)),
	}
	// Which is in which: of those that are not Bottom each but First has its own.
	inside := map[[2]int]int{{4, 3}: 1, {5, 3}: 1, {5, 4}: 1, {6, 3}: 1, {6, 4}: 1, {7, 3}: 1, {7, 4}: 1, {7, 5}: 1}
	for a, s := range states {
		for b, r := range states {
			want := a == b || b == 1 || a == 2 || inside[[2]int{a, b}] == 1 || a == 0 && b != 2 && b != 12
			if s.Within(r) != want {
				t.Errorf("%d is within %d: %v", a, b, !want)
			}
			if s.Same(r) != (a == b) {
				t.Errorf("%d is the same as %d: %v", a, b, a != b)
			}
			if both := s.Join(r); !s.Within(both) || !r.Within(both) {
				t.Errorf("%d or %d is not within their Join", a, b)
			}
			if both := s.Widen(r, 5); !s.Within(both) || !r.Within(both) {
				t.Errorf("%d or %d is not within Widen", a, b)
			}
		}
	}
}
