package state_test

import (
	"math"
	"strings"
	"testing"

	"plumbline/api"
	"plumbline/state"
)

// pair is a state of two ints that lie in ranges.
func pair(t *testing.T, a, b api.IntRange) *state.State {
	t.Helper()
	return state.First(unit(t, "int i; int k;")).SetInt(0, a, false).SetInt(1, b, false)
}

// lone is that of two ints that no octagon has room for, behind as many as it has.
func lone(t *testing.T, a, b api.IntRange) (s *state.State, v, w int) {
	t.Helper()
	var names []string
	for n := range api.MaxInts {
		names = append(names, "int "+string('a'+rune(n))+";")
	}
	s = state.First(unit(t, strings.Join(names, " ")+"int i; int k;"))
	v, w = api.MaxInts, api.MaxInts+1
	return s.SetInt(v, a, false).SetInt(w, b, false), v, w
}

type copyCase struct {
	from api.IntRange
	neg  bool
	c    int64
	want api.IntRange
}

func copyCases() []copyCase {
	most, least := ints(api.MaxInt, api.MaxInt), ints(api.MinInt, api.MinInt)
	return []copyCase{
		{ints(1, 3), false, 0, ints(1, 3)}, {ints(1, 3), false, 2, ints(3, 5)}, {ints(1, 3), false, -9, ints(-8, -6)},
		{ints(1, 3), true, 0, ints(-3, -1)}, {ints(1, 3), true, 2, ints(-1, 1)}, {ints(1, 3), true, -9, ints(-12, -10)},
		{ints(5, 5), true, 10, ints(5, 5)}, {ints(0, 0), true, 0, ints(0, 0)},
		// What is no int of 32 bits is left out.
		{most, false, 0, most}, {most, false, 1, noInts}, {least, false, -1, noInts}, {least, true, 0, noInts}, {least, true, -1, most}, {most, true, -1, least}, {most, true, -2, noInts},
		{ints(api.MaxInt-2, api.MaxInt), false, 1, ints(api.MaxInt-1, api.MaxInt)}, {ints(api.MinInt, api.MinInt+2), false, -2, least}, {ints(api.MinInt, 0), true, 0, ints(0, api.MaxInt)},
		{ints(api.MinInt, api.MaxInt), false, 5, ints(api.MinInt+5, api.MaxInt)}, {ints(api.MinInt, api.MaxInt), true, -5, ints(api.MinInt, api.MaxInt-4)},
		// The ends of what may be added.
		{ints(api.MinInt, api.MaxInt), false, far, noInts}, {ints(api.MinInt, api.MaxInt), true, -far, noInts},
		{ints(api.MinInt, api.MaxInt), false, 1<<32 - 1, most}, {ints(api.MinInt, api.MaxInt), false, 1<<32 - 2, ints(api.MaxInt-1, api.MaxInt)}, {ints(api.MinInt, api.MaxInt), false, 1 << 32, noInts},
		{ints(api.MinInt, api.MaxInt), false, -(1<<32 - 1), least}, {ints(api.MinInt, api.MaxInt), false, -1 << 32, noInts},
	}
}

// P11.3: CopyInt onto another one, and onto itself; of ints with sums and without.
func TestCopyInt(t *testing.T) {
	for _, c := range copyCases() {
		s := pair(t, ints(-7, 7), c.from)
		checkInts(t, "CopyInt", s.CopyInt(0, 1, c.neg, c.c), 0, c.want)
		checkInts(t, "CopyInt onto itself", s.CopyInt(1, 1, c.neg, c.c), 1, c.want)
		if r := s.CopyInt(1, 1, c.neg, c.c); !c.want.Empty && r.Int(0) != ints(-7, 7) {
			t.Errorf("CopyInt onto itself changes the other one to %v", r.Int(0))
		}
		alone, v, w := lone(t, ints(-7, 7), c.from)
		checkInts(t, "CopyInt without places", alone.CopyInt(v, w, c.neg, c.c), v, c.want)
		checkInts(t, "CopyInt without places onto itself", alone.CopyInt(w, w, c.neg, c.c), w, c.want)
		checkInts(t, "CopyInt from one without a place", alone.CopyInt(0, w, c.neg, c.c), 0, c.want)
		checkInts(t, "CopyInt to one without a place", alone.SetInt(0, c.from, false).CopyInt(v, 0, c.neg, c.c), v, c.want)
	}
}

// P11.3: what may not be added, or copied.
func TestCopyIntOfOthers(t *testing.T) {
	s := pair(t, ints(1, 3), ints(4, 9))
	alone, v, w := lone(t, ints(1, 3), ints(4, 9))
	for _, c := range []int64{far + 1, -far - 1, math.MaxInt64, math.MinInt64} {
		for _, neg := range []bool{false, true} {
			if s.CopyInt(0, 1, neg, c) != s || s.CopyInt(0, 0, neg, c) != s || alone.CopyInt(v, w, neg, c) != alone || alone.CopyInt(v, v, neg, c) != alone {
				t.Errorf("CopyInt adds %d", c)
			}
		}
	}
	for _, c := range []int64{far, -far} {
		if !s.CopyInt(0, 1, false, c).Bottom() || !s.CopyInt(0, 0, true, c).Bottom() || !alone.CopyInt(v, w, false, c).Bottom() {
			t.Errorf("CopyInt does not add %d", c)
		}
	}
}

// P11.3: what fits behind a CopyInt, one by one.
func TestCopyIntFits(t *testing.T) {
	s := pair(t, ints(0, 0), ints(-3, 3))
	for _, neg := range []bool{false, true} {
		for c := int64(-4); c <= 4; c++ {
			onto, itself := s.CopyInt(0, 1, neg, c), s.CopyInt(1, 1, neg, c)
			for x := int64(-8); x <= 8; x++ {
				for y := int64(-8); y <= 8; y++ {
					is := y
					if neg {
						is = -y
					}
					checkHas(t, "CopyInt", onto, wholes(x, y), x == is+c && y >= -3 && y <= 3)
					was := x - c // what lay at the second one
					if neg {
						was = c - x
					}
					checkHas(t, "CopyInt onto itself", itself, wholes(0, x), was >= -3 && was <= 3)
				}
			}
		}
	}
}

// signed is x, negated, if neg.
func signed(x int64, neg bool) int64 {
	if neg {
		return -x
	}
	return x
}

// P11.3: Relate of two, of one with itself, of each sign: what fits, one by one; and the ranges are no greater than they must be.
func TestRelateFits(t *testing.T) {
	s := pair(t, ints(-3, 4), ints(-2, 5))
	for signs := range 4 {
		nv, nw := signs&1 == 1, signs&2 == 2
		for c := int64(-12); c <= 12; c++ {
			two, same := s.Relate(0, nv, 1, nw, c), s.Relate(0, nv, 0, nw, c)
			ofTwo, ofSame := [2]api.IntRange{noInts, noInts}, noInts
			for x := int64(-4); x <= 5; x++ {
				for y := int64(-3); y <= 6; y++ {
					inside := x >= -3 && x <= 4 && y >= -2 && y <= 5
					fits := inside && signed(x, nv)+signed(y, nw) <= c
					checkHas(t, "Relate", two, wholes(x, y), fits)
					if fits {
						ofTwo = [2]api.IntRange{hull(ofTwo[0], x), hull(ofTwo[1], y)}
					}
					fits = inside && signed(x, nv)+signed(x, nw) <= c
					checkHas(t, "Relate with itself", same, wholes(x, y), fits)
					if fits {
						ofSame = hull(ofSame, x)
					}
				}
			}
			checkInts(t, "Relate", two, 0, ofTwo[0])
			checkInts(t, "Relate", two, 1, ofTwo[1])
			checkInts(t, "Relate with itself", same, 0, ofSame)
			checkRelateAlone(t, nv, nw, c, ofTwo, ofSame)
		}
	}
}

// checkRelateAlone holds the same ranges of ints without places.
func checkRelateAlone(t *testing.T, nv, nw bool, c int64, ofTwo [2]api.IntRange, ofSame api.IntRange) {
	t.Helper()
	s, v, w := lone(t, ints(-3, 4), ints(-2, 5))
	r := s.Relate(v, nv, w, nw, c)
	checkInts(t, "Relate without places", r, v, ofTwo[0])
	checkInts(t, "Relate without places", r, w, ofTwo[1])
	checkInts(t, "Relate without a place with itself", s.Relate(v, nv, v, nw, c), v, ofSame)
	r = s.SetInt(0, ints(-2, 5), false).Relate(v, nv, 0, nw, c)
	checkInts(t, "Relate of one without a place", r, v, ofTwo[0])
	checkInts(t, "Relate of one without a place", r, 0, ofTwo[1])
}

func hull(a api.IntRange, x int64) api.IntRange {
	if a.Empty {
		return ints(x, x)
	}
	return ints(min(a.Lo, x), max(a.Hi, x))
}

// P11.3: the ends of what two may be at most, and what lies past them.
func TestRelateFarOff(t *testing.T) {
	s := pair(t, ints(api.MinInt, api.MaxInt), ints(api.MinInt, api.MaxInt))
	alone, v, w := lone(t, ints(api.MinInt, api.MaxInt), ints(api.MinInt, api.MaxInt))
	for signs := range 4 {
		nv, nw := signs&1 == 1, signs&2 == 2
		for _, c := range []int64{far + 1, -far - 1, math.MaxInt64, math.MinInt64} {
			if s.Relate(0, nv, 1, nw, c) != s || s.Relate(0, nv, 0, nw, c) != s || alone.Relate(v, nv, w, nw, c) != alone || alone.Relate(v, nv, v, nw, c) != alone {
				t.Errorf("Relate with %d", c)
			}
		}
		if r := s.Relate(0, nv, 1, nw, far); r.Bottom() || !r.Same(s) {
			t.Error("Relate with 2^33 leaves something out")
		}
		if !s.Relate(0, nv, 1, nw, -far).Bottom() || !s.Relate(1, nv, 1, nw, -far).Bottom() || !alone.Relate(v, nv, w, nw, -far).Bottom() || !alone.Relate(v, nv, v, nw, -far).Bottom() {
			t.Error("Relate with -2^33 leaves something")
		}
	}
	// Both added are at least -2^32: just one row of cells is left, and then none.
	r := s.Relate(0, false, 1, false, 2*api.MinInt)
	checkInts(t, "Relate", r, 0, ints(api.MinInt, api.MinInt))
	checkInts(t, "Relate", r, 1, ints(api.MinInt, api.MinInt))
	checkHas(t, "Relate", r, wholes(api.MinInt, api.MinInt), true)
	if !s.Relate(0, false, 1, false, 2*api.MinInt-1).Bottom() {
		t.Error("Relate leaves what is no int")
	}
	r = s.Relate(0, true, 1, false, 2*api.MinInt+1)
	checkInts(t, "Relate", r, 0, ints(api.MaxInt, api.MaxInt))
	checkInts(t, "Relate", r, 1, ints(api.MinInt, api.MinInt))
}

// Words: a state knows sums and differences of two ints, and what follows of them.
func TestSumsAreKnown(t *testing.T) {
	s := pair(t, ints(0, 9), ints(0, 9)).Relate(0, false, 1, true, -2) // i is below k by 2 at least
	checkInts(t, "below k", s, 0, ints(0, 7))
	checkInts(t, "above i", s, 1, ints(2, 9))
	checkInts(t, "where k is 4 at most", s.LessInt(1, ints(0, 4)), 0, ints(0, 2))
	checkInts(t, "where i is 5 at least", s.LessInt(0, ints(5, 9)), 1, ints(7, 9))
	checkHas(t, "a difference of 2", s, wholes(3, 5), true)
	checkHas(t, "a difference of 1", s, wholes(3, 4), false)

	sum := pair(t, ints(0, 9), ints(0, 9)).Relate(0, false, 1, false, 5)
	checkInts(t, "where k is 4 at least", sum.LessInt(1, ints(4, 9)), 0, ints(0, 1))
	same := pair(t, ints(0, 9), ints(0, 9)).CopyInt(1, 0, false, 0)
	checkInts(t, "a copy, where i is 3 to 4", same.LessInt(0, ints(3, 4)), 1, ints(3, 4))
	checkInts(t, "i moved, and its copy known", same.CopyInt(0, 0, false, 10).LessInt(1, ints(2, 2)), 0, ints(12, 12))
	checkInts(t, "i turned about", same.CopyInt(0, 0, true, 1).LessInt(1, ints(2, 2)), 0, ints(-1, -1))
	other := pair(t, ints(0, 9), ints(0, 9)).CopyInt(1, 0, true, 3)
	checkInts(t, "3 - i", other.LessInt(0, ints(1, 2)), 1, ints(1, 2))
	checkInts(t, "3 - i", other.LessInt(1, ints(-6, -5)), 0, ints(8, 9))
	if !same.Relate(0, false, 1, true, -1).Bottom() || same.Relate(0, false, 1, true, 0).Bottom() {
		t.Error("a copy is below what it is a copy of")
	}
}

// An assignment to one of both lets what was known of them be unknown; another variable's does not.
func TestSumsAreForgotten(t *testing.T) {
	u := unit(t, "int i; int k; int n; double x;")
	s := state.First(u).SetInt(0, ints(0, 9), false).CopyInt(1, 0, false, 0)
	for what, r := range map[string]*state.State{
		"SetInt of i": s.SetInt(0, ints(0, 9), false), "SetInt of k": s.SetInt(1, ints(0, 9), false),
		"weak SetInt of k": s.SetInt(1, ints(0, 9), true), "CopyInt of n to k": s.SetInt(2, ints(0, 9), false).CopyInt(1, 2, false, 0),
	} {
		checkInts(t, what, r.LessInt(0, ints(3, 3)), 1, ints(0, 9))
		checkInts(t, what, r.LessInt(1, ints(3, 3)), 0, ints(0, 9))
	}
	for what, r := range map[string]*state.State{
		"SetInt of n": s.SetInt(2, ints(5, 6), false), "weak SetInt of n": s.SetInt(2, ints(5, 6), true), "SetFloat": s.SetFloat(3, doubles(1, 2), false),
		"CopyInt to n": s.CopyInt(2, 0, false, 0), "LessInt of i": s.LessInt(0, ints(0, 8)), "LessFloat": s.LessFloat(3, doubles(0, 2)), "Relate of n": s.Relate(2, false, 0, true, 0),
	} {
		checkInts(t, what, r.LessInt(0, ints(3, 3)), 1, ints(3, 3))
		checkInts(t, what, r.LessInt(1, ints(3, 3)), 0, ints(3, 3))
	}
	checkInts(t, "n, a copy of i, and k, its copy too", s.CopyInt(2, 0, false, 1).LessInt(1, ints(4, 4)), 2, ints(5, 5))
	checkInts(t, "n, a copy of k that is another one then", s.CopyInt(2, 1, false, 1).SetInt(1, ints(0, 0), false).LessInt(0, ints(4, 4)), 2, ints(5, 5))
}

// Of more ints than an octagon has room for the ranges are known, and the sums of the first ones.
func TestManyInts(t *testing.T) {
	s, v, w := lone(t, ints(0, 9), ints(0, 9))
	last := api.MaxInts - 1
	s = s.SetInt(0, ints(0, 9), false).CopyInt(last, 0, false, 1)
	checkInts(t, "the last one with a place", s.LessInt(0, ints(3, 3)), last, ints(4, 4))
	r := s.CopyInt(v, 0, false, 2).CopyInt(w, v, true, 0)
	checkInts(t, "a copy", r, v, ints(2, 11))
	checkInts(t, "a copy of a copy", r, w, ints(-11, -2))
	// An assignment to one that has a place lets its sums be unknown, also from one that has none.
	r = s.CopyInt(0, v, false, 0)
	checkInts(t, "a copy from one without a place", r.LessInt(0, ints(3, 3)), last, ints(1, 10))
	// What it is limited by goes on to what hangs on it.
	r = s.SetInt(v, ints(4, 6), false).Relate(0, false, v, true, 0)
	checkInts(t, "at most one without a place", r, 0, ints(0, 6))
	checkInts(t, "and what hangs on it", r, last, ints(1, 7))
	if !s.Relate(v, false, w, true, -10).Bottom() {
		t.Error("Relate leaves what can't be")
	}
}

// Arrays, and floats, take no room away from ints of which sums are known.
func TestArraysTakeNoRoom(t *testing.T) {
	var names []string
	for n := range api.MaxInts {
		names = append(names, "int a"+string('a'+rune(n))+"[2]; double d"+string('a'+rune(n))+";")
	}
	s := state.Top(unit(t, strings.Join(names, " ")+"int i; int k;"))
	i := 2 * api.MaxInts
	s = s.LessInt(i, ints(0, 9)).CopyInt(i+1, i, false, 1)
	checkInts(t, "behind arrays", s.LessInt(i, ints(3, 3)), i+1, ints(4, 4))
}
