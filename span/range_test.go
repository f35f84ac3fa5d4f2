package span_test

import (
	"math"
	"testing"

	"plumbline/api"
	"plumbline/span"
)

func TestOfAndTop(t *testing.T) {
	for _, f := range formats {
		sign := bitsOf(f, math.Copysign(0, -1))
		if got := span.Top(f); got != topOf(f) || !span.Right(f, got) {
			t.Errorf("Top(%d) = %v", f, got)
		}
		for _, a := range ranges(f) {
			if got := span.Of(f, a.Lo, a.Hi); got != a {
				t.Fatalf("Of(%d, %v, %v) = %v", f, a.Lo, a.Hi, got)
			}
			if a.Lo != a.Hi && span.Of(f, a.Hi, a.Lo) != none {
				t.Fatalf("Of(%d, %v, %v) is not Empty", f, a.Hi, a.Lo)
			}
		}
		// -0 is taken as 0.
		one := bitsOf(f, 1)
		for _, c := range []struct{ lo, hi, lo2, hi2 uint64 }{{sign, one, 0, one}, {sign, sign, 0, 0}, {0, sign, 0, 0}, {one | sign, sign, one | sign, 0}} {
			if got := span.Of(f, c.lo, c.hi); got != (api.FloatRange{Lo: c.lo2, Hi: c.hi2}) {
				t.Errorf("Of(%d, %v, %v) = %v", f, c.lo, c.hi, got)
			}
		}
		if got := span.Of(f, one, sign); got != none {
			t.Errorf("Of(%d, 1, -0) = %v", f, got)
		}
		for _, bad := range wrongRanges(f)[12:] {
			if got := span.Of(f, bad.Lo, bad.Hi); got != none {
				t.Errorf("Of(%d, %v, %v) = %v", f, bad.Lo, bad.Hi, got)
			}
		}
	}
}

func TestIntOfAndTop(t *testing.T) {
	if got := span.IntTop(); got != intsOf(api.MinInt, api.MaxInt) || !span.IntRight(got) {
		t.Errorf("IntTop() = %v", got)
	}
	for _, c := range []struct {
		lo, hi int64
		right  bool
	}{
		{0, 0, true}, {-1, 1, true}, {1, -1, false}, {api.MinInt, api.MaxInt, true}, {api.MinInt, api.MinInt, true}, {api.MaxInt, api.MaxInt, true}, {api.MaxInt, api.MinInt, false},
		{api.MinInt - 1, 0, false}, {0, api.MaxInt + 1, false}, {math.MinInt64, math.MaxInt64, false}, {5, 4, false}, {-4, -5, false}, {-5, -4, true}, {1 << 32, 1 << 32, false},
	} {
		want := noInts
		if c.right {
			want = intsOf(c.lo, c.hi)
		}
		if got := span.IntOf(c.lo, c.hi); got != want {
			t.Errorf("IntOf(%d, %d) = %v", c.lo, c.hi, got)
		}
		if span.IntRight(intsOf(c.lo, c.hi)) != c.right {
			t.Errorf("IntRight(%d, %d)", c.lo, c.hi)
		}
	}
}

func TestRight(t *testing.T) {
	for _, f := range formats {
		if !span.Right(f, none) {
			t.Errorf("%d: Empty is not right", f)
		}
		for _, a := range ranges(f) {
			if !span.Right(f, a) {
				t.Fatalf("Right(%d, %v)", f, a)
			}
		}
		for _, a := range wrongRanges(f) {
			if span.Right(f, a) {
				t.Errorf("Right(%d, %v)", f, a)
			}
		}
	}
	if !span.IntRight(noInts) {
		t.Error("Empty is not right")
	}
	for _, a := range wrongInts() {
		if span.IntRight(a) {
			t.Errorf("IntRight(%v)", a)
		}
	}
}

func TestHas(t *testing.T) {
	for _, f := range formats {
		l := edges(f)
		for _, a := range ranges(f) {
			for _, x := range l {
				want := x >= valueOf(f, a.Lo) && x <= valueOf(f, a.Hi)
				if span.Has(f, a, bitsOf(f, x)) != want {
					t.Fatalf("Has(%d, %v, %g) is not %v", f, a, x, want)
				}
			}
		}
		// By its value: -0 is in what has 0.
		minus := bitsOf(f, math.Copysign(0, -1))
		for a, want := range map[api.FloatRange]bool{
			rangeOf(f, 0, 0): true, rangeOf(f, 0, 1): true, rangeOf(f, -1, 0): true, rangeOf(f, -1, 1): true, topOf(f): true,
			rangeOf(f, leastOf(f), 1): false, rangeOf(f, -1, -leastOf(f)): false, none: false,
		} {
			if span.Has(f, a, minus) != want || span.Has(f, a, 0) != want {
				t.Errorf("Has(%d, %v, 0) is not %v", f, a, want)
			}
		}
		bad := []uint64{bitsOf(f, math.NaN()), bitsOf(f, math.Inf(1)), bitsOf(f, math.Inf(-1)), bitsOf(f, math.NaN()) | minus}
		if f == api.Single {
			bad = append(bad, 1<<32, 1<<63, bitsOf(f, 1)|1<<40)
		}
		for _, x := range bad {
			for _, a := range []api.FloatRange{topOf(f), rangeOf(f, 0, 0), none} {
				if span.Has(f, a, x) {
					t.Errorf("Has(%d, %v, %v)", f, a, x)
				}
			}
		}
		if span.Has(f, none, 0) {
			t.Error("Empty has 0")
		}
	}
}

func TestIntHas(t *testing.T) {
	for x, want := range map[int64]bool{-4: false, -3: true, 0: true, 5: true, 6: false, math.MinInt64: false, math.MaxInt64: false, 1 << 32: false} {
		if span.IntHas(intsOf(-3, 5), x) != want || span.IntHas(noInts, x) {
			t.Errorf("IntHas of %d", x)
		}
	}
	for x, want := range map[int64]bool{api.MinInt: true, api.MinInt - 1: false, api.MaxInt: true, api.MaxInt + 1: false} {
		if span.IntHas(span.IntTop(), x) != want {
			t.Errorf("IntHas of all and %d", x)
		}
	}
}

// Meet has the numbers of both, Join is the least range of both, and Within says which lies in which.
func TestMeetJoinWithin(t *testing.T) {
	for _, f := range bothFormats {
		all := append(ranges(f), none)
		for k, a := range all {
			for _, b := range all[k%3:] {
				meet, join := span.Meet(f, a, b), span.Join(f, a, b)
				if a.Empty || b.Empty {
					other := a
					if a.Empty {
						other = b
					}
					if meet != none || join != other || span.Within(f, a, b) != a.Empty {
						t.Fatalf("%d: %v, %v: Meet %v, Join %v", f, a, b, meet, join)
					}
					continue
				}
				al, ah, bl, bh := valueOf(f, a.Lo), valueOf(f, a.Hi), valueOf(f, b.Lo), valueOf(f, b.Hi)
				want := rangeOf(f, max(al, bl), min(ah, bh))
				if max(al, bl) > min(ah, bh) {
					want = none
				}
				if meet != want || join != rangeOf(f, min(al, bl), max(ah, bh)) || span.Within(f, a, b) != (al >= bl && ah <= bh) {
					t.Fatalf("%d: %v, %v: Meet %v, Join %v, Within %v", f, a, b, meet, join, span.Within(f, a, b))
				}
			}
		}
	}
}

// smallInts are all ranges of small ints, and Empty.
func smallInts(top int64) []api.IntRange {
	l := []api.IntRange{noInts}
	for lo := -top; lo <= top; lo++ {
		for hi := lo; hi <= top; hi++ {
			l = append(l, intsOf(lo, hi))
		}
	}
	return l
}

// hull is the least range that has all numbers.
func hull(l []int64) api.IntRange {
	if len(l) == 0 {
		return noInts
	}
	r := intsOf(l[0], l[0])
	for _, x := range l {
		r.Lo, r.Hi = min(r.Lo, x), max(r.Hi, x)
	}
	return r
}

// members are the numbers of a range.
func members(a api.IntRange) []int64 {
	var l []int64
	for x := a.Lo; x <= a.Hi && !a.Empty; x++ {
		l = append(l, x)
	}
	return l
}

func TestIntMeetJoinWithin(t *testing.T) {
	for _, a := range smallInts(4) {
		for _, b := range smallInts(4) {
			var both []int64
			within := true
			for _, x := range members(a) {
				if span.IntHas(b, x) {
					both = append(both, x)
				} else {
					within = false
				}
			}
			if got := span.IntMeet(a, b); got != hull(both) {
				t.Fatalf("IntMeet(%v, %v) = %v", a, b, got)
			}
			if got := span.IntJoin(a, b); got != hull(append(members(a), members(b)...)) {
				t.Fatalf("IntJoin(%v, %v) = %v", a, b, got)
			}
			if span.IntWithin(a, b) != within {
				t.Fatalf("IntWithin(%v, %v) is not %v", a, b, within)
			}
		}
	}
	if got := span.IntJoin(intsOf(api.MinInt, api.MinInt), intsOf(api.MaxInt, api.MaxInt)); got != span.IntTop() {
		t.Error(got)
	}
}

func TestWiden(t *testing.T) {
	for _, f := range formats {
		most, least := mostOf(f), leastOf(f)
		for _, c := range []struct{ al, ah, bl, bh, lo, hi float64 }{
			{1, 2, 1, 2, 1, 2}, {1, 2, 1.5, 1.5, 1, 2}, {1, 2, 3, 4, 1, most}, {1, 2, 0.5, 2, 0, 2}, {1, 2, 0, 2, 0, 2}, {1, 2, -least, 2, -most, 2},
			{1, 2, least, 2, 0, 2}, {0, 2, -1, 2, -most, 2}, {0, 0, 0, least, 0, most}, {0, 0, -least, 0, -most, 0}, {-2, -1, -2, -0.5, -2, 0}, {-2, -1, -2, -least, -2, 0},
			{-2, -1, -2, 0, -2, 0}, {-2, -1, -2, least, -2, most}, {-2, -1, -3, -1, -most, -1}, {-2, -1, -3, 5, -most, most}, {1, 2, -3, 5, -most, most}, {1, 2, 0.5, 5, 0, most},
			{-2, -1, -5, -0.5, -most, 0}, {-1, 1, -0.5, 0.5, -1, 1}, {-most, most, -1, 1, -most, most}, {1, 1, most, most, 1, most}, {-1, -1, -most, -most, -most, -1},
		} {
			a, b := rangeOf(f, c.al, c.ah), rangeOf(f, c.bl, c.bh)
			if got := span.Widen(f, a, b); got != rangeOf(f, c.lo, c.hi) {
				t.Errorf("Widen(%d, %g..%g, %g..%g) = %g..%g; want %g..%g", f, c.al, c.ah, c.bl, c.bh, valueOf(f, got.Lo), valueOf(f, got.Hi), c.lo, c.hi)
			}
			if span.Widen(f, a, none) != a || span.Widen(f, none, b) != b {
				t.Errorf("Widen(%d) of Empty and %v, %v", f, a, b)
			}
		}
		if span.Widen(f, none, none) != none {
			t.Errorf("Widen(%d) of two Empty ones", f)
		}
		// Widen has both.
		for _, a := range ranges(f) {
			for _, b := range []api.FloatRange{rangeOf(f, -3, 0.5), rangeOf(f, 0, 0), rangeOf(f, 1, mostOf(f))} {
				if w := span.Widen(f, a, b); !span.Right(f, w) || !span.Within(f, a, w) || !span.Within(f, b, w) {
					t.Fatalf("Widen(%d, %v, %v) = %v", f, a, b, w)
				}
			}
		}
	}
}

func TestIntWiden(t *testing.T) {
	const least, most = api.MinInt, api.MaxInt
	for _, c := range []struct {
		a, b, want api.IntRange
		thresholds []int64
	}{
		{intsOf(0, 1), intsOf(0, 2), intsOf(0, 10), []int64{10, 100}},
		{intsOf(0, 1), intsOf(0, 2), intsOf(0, 10), []int64{100, 10}},
		{intsOf(0, 1), intsOf(0, 2), intsOf(0, 10), []int64{100, 10, 10, 1, 0, -5, 100, 11}},
		{intsOf(0, 1), intsOf(0, 10), intsOf(0, 10), []int64{10, 100}},
		{intsOf(0, 1), intsOf(0, 11), intsOf(0, 100), []int64{10, 100}},
		{intsOf(0, 1), intsOf(0, 101), intsOf(0, most), []int64{10, 100}},
		{intsOf(0, 1), intsOf(0, 2), intsOf(0, most), nil},
		{intsOf(0, 1), intsOf(0, 2), intsOf(0, most), []int64{}},
		{intsOf(0, 1), intsOf(0, 2), intsOf(0, most), []int64{most + 1, 1 << 40, math.MaxInt64, math.MinInt64, least - 1}},
		{intsOf(0, 1), intsOf(0, 2), intsOf(0, most), []int64{most}},
		{intsOf(0, 1), intsOf(0, 1), intsOf(0, 1), []int64{5, -5}},
		{intsOf(0, 9), intsOf(3, 4), intsOf(0, 9), []int64{5, 2}},
		{intsOf(0, 9), intsOf(-1, 4), intsOf(-2, 9), []int64{5, -2, -7}},
		{intsOf(0, 9), intsOf(-1, 4), intsOf(-2, 9), []int64{-7, -2, 5, -2}},
		{intsOf(0, 9), intsOf(-2, 4), intsOf(-2, 9), []int64{-7, -2, 5}},
		{intsOf(0, 9), intsOf(-3, 4), intsOf(-7, 9), []int64{-7, -2, 5}},
		{intsOf(0, 9), intsOf(-8, 4), intsOf(least, 9), []int64{-7, -2, 5}},
		{intsOf(0, 9), intsOf(-8, 4), intsOf(least, 9), []int64{least - 1, math.MinInt64}},
		{intsOf(0, 9), intsOf(-8, 14), intsOf(-9, 15), []int64{-9, 15, 16, -10, 14 - 1, -7}},
		{intsOf(0, 0), intsOf(least, most), intsOf(least, most), []int64{0, 5}},
		{intsOf(5, 5), intsOf(1, 1), intsOf(0, 5), []int64{0, 3}},
		{intsOf(5, 5), intsOf(1, 1), intsOf(least, 5), nil},
		{noInts, intsOf(1, 2), intsOf(1, 2), []int64{0, 5}},
		{intsOf(1, 2), noInts, intsOf(1, 2), []int64{0, 5}},
		{noInts, noInts, noInts, []int64{0, 5}},
	} {
		if got := span.IntWiden(c.a, c.b, c.thresholds...); got != c.want {
			t.Errorf("IntWiden(%v, %v, %v) = %v; want %v", c.a, c.b, c.thresholds, got, c.want)
		}
	}
	// What is handed in stays as it is.
	room := []int64{100, 10, 7}
	if span.IntWiden(intsOf(0, 1), intsOf(0, 2), room[:2]...); room[0] != 100 || room[1] != 10 || room[2] != 7 {
		t.Error(room)
	}
}
