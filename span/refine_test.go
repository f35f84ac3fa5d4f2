package span_test

import (
	"math"
	"testing"

	"plumbline/api"
	"plumbline/span"
)

var relations = []api.Op{api.Lt, api.Le, api.Gt, api.Ge, api.Eq, api.Ne}

func stands[N int64 | float64](op api.Op, x, y N) bool {
	return [...]bool{api.Lt: x < y, api.Le: x <= y, api.Gt: x > y, api.Ge: x >= y, api.Eq: x == y, api.Ne: x != y}[op]
}

// left are the least ranges that have all numbers of a and of b which have one of the other to stand to so.
func left(op api.Op, a, b api.IntRange) (api.IntRange, api.IntRange) {
	var l, k []int64
	for _, x := range members(a) {
		for _, y := range members(b) {
			if stands(op, x, y) {
				l, k = append(l, x), append(k, y)
			}
		}
	}
	return hull(l), hull(k)
}

func TestIntRefine(t *testing.T) {
	for _, op := range relations {
		for _, a := range smallInts(5) {
			for _, b := range smallInts(5) {
				wantA, wantB := left(op, a, b)
				if r, s := span.IntRefine(op, a, b); r != wantA || s != wantB {
					t.Fatalf("IntRefine(%d, %v, %v) = %v, %v; want %v, %v", op, a, b, r, s, wantA, wantB)
				}
			}
		}
	}
}

// movedInts are ranges so many further up.
func movedInts(a api.IntRange, by int64) api.IntRange {
	if a.Empty {
		return a
	}
	return intsOf(a.Lo+by, a.Hi+by)
}

// At both ends of all ints it is as in the middle.
func TestIntRefineAtTheEnds(t *testing.T) {
	for _, by := range []int64{api.MinInt + 3, api.MaxInt - 3} {
		for _, op := range relations {
			for _, a := range smallInts(3) {
				for _, b := range smallInts(3) {
					wantA, wantB := left(op, a, b)
					if r, s := span.IntRefine(op, movedInts(a, by), movedInts(b, by)); r != movedInts(wantA, by) || s != movedInts(wantB, by) {
						t.Fatalf("IntRefine(%d, %v, %v), moved by %d: %v, %v", op, a, b, by, r, s)
					}
				}
			}
		}
	}
}

// floatsAt are the floats of a range of ints, counted from a place on.
func floatsAt(f api.Format, from float64, a api.IntRange) api.FloatRange {
	if a.Empty {
		return none
	}
	return rangeOf(f, step(f, from, int(a.Lo)), step(f, from, int(a.Hi)))
}

// Floats that stand side by side are as ints that do, about 0, elsewhere, and at both ends of all.
func TestRefine(t *testing.T) {
	for _, f := range formats {
		most := mostOf(f)
		for _, from := range []float64{0, 1, -1, 100, step(f, most, -3), step(f, -most, 3)} {
			for _, op := range relations {
				for _, a := range smallInts(3) {
					for _, b := range smallInts(3) {
						wantA, wantB := left(op, a, b)
						r, s := span.Refine(f, op, floatsAt(f, from, a), floatsAt(f, from, b))
						if r != floatsAt(f, from, wantA) || s != floatsAt(f, from, wantB) {
							t.Fatalf("Refine(%d, %d, %v, %v) about %g = %v, %v; want %v, %v", f, op, a, b, from, r, s, wantA, wantB)
						}
					}
				}
			}
		}
	}
}

// Where there is none ahead, or behind, nothing is left.
func TestRefineAtTheEnds(t *testing.T) {
	for _, f := range formats {
		top, most := topOf(f), mostOf(f)
		low, high := rangeOf(f, -most, -most), rangeOf(f, most, most)
		for _, c := range []struct {
			op         api.Op
			a, b, r, s api.FloatRange
		}{
			{api.Lt, top, low, none, none}, {api.Lt, low, low, none, none}, {api.Lt, high, top, none, none}, {api.Gt, low, top, none, none}, {api.Gt, top, high, none, none}, {api.Gt, high, high, none, none},
			{api.Le, top, low, low, low}, {api.Ge, top, high, high, high}, {api.Le, high, top, high, high}, {api.Ge, low, top, low, low},
			{api.Lt, top, top, rangeOf(f, -most, step(f, most, -1)), rangeOf(f, step(f, -most, 1), most)}, {api.Gt, top, top, rangeOf(f, step(f, -most, 1), most), rangeOf(f, -most, step(f, most, -1))},
			{api.Ne, top, low, rangeOf(f, step(f, -most, 1), most), low}, {api.Ne, high, top, high, rangeOf(f, -most, step(f, most, -1))}, {api.Ne, high, high, none, none}, {api.Ne, top, top, top, top},
			{api.Lt, rangeOf(f, -1, 1), rangeOf(f, 0, 0), rangeOf(f, -1, -leastOf(f)), rangeOf(f, 0, 0)}, {api.Gt, rangeOf(f, -1, 1), rangeOf(f, 0, 0), rangeOf(f, leastOf(f), 1), rangeOf(f, 0, 0)},
			{api.Ne, rangeOf(f, -1, 1), rangeOf(f, 0, 0), rangeOf(f, -1, 1), rangeOf(f, 0, 0)}, {api.Ne, rangeOf(f, 0, 1), rangeOf(f, 0, 0), rangeOf(f, leastOf(f), 1), rangeOf(f, 0, 0)},
		} {
			if r, s := span.Refine(f, c.op, c.a, c.b); r != c.r || s != c.s {
				t.Errorf("Refine(%d, %d, %v, %v) = %v, %v; want %v, %v", f, c.op, c.a, c.b, r, s, c.r, c.s)
			}
		}
	}
}

// Of ranges of all kinds: what is left is what the words say, by the machine's floats.
func TestRefineOfAll(t *testing.T) {
	for _, f := range bothFormats {
		all := append(ranges(f), none)
		for k, a := range all {
			for at := k % 3; at < len(all); at += 3 {
				b := all[at]
				for _, op := range relations {
					wantA, wantB := wantRefine(f, op, a, b)
					if r, s := span.Refine(f, op, a, b); r != wantA || s != wantB {
						t.Fatalf("Refine(%d, %d, %v, %v) = %v, %v; want %v, %v", f, op, a, b, r, s, wantA, wantB)
					}
				}
			}
		}
	}
}

// wantRefine reckons with infinite floats as those ahead of and behind all.
func wantRefine(f api.Format, op api.Op, a, b api.FloatRange) (api.FloatRange, api.FloatRange) {
	if a.Empty || b.Empty {
		return none, none
	}
	al, ah, bl, bh := valueOf(f, a.Lo), valueOf(f, a.Hi), valueOf(f, b.Lo), valueOf(f, b.Hi)
	switch op {
	case api.Lt:
		ah, bl = min(ah, step(f, bh, -1)), max(bl, step(f, al, 1))
	case api.Le:
		ah, bl = min(ah, bh), max(bl, al)
	case api.Gt:
		al, bh = max(al, step(f, bl, 1)), min(bh, step(f, ah, -1))
	case api.Ge:
		al, bh = max(al, bl), min(bh, ah)
	case api.Eq:
		al, ah = max(al, bl), min(ah, bh)
		bl, bh = al, ah
	case api.Ne:
		if al == ah && bl == bh && al == bl {
			return none, none
		}
		switch {
		case bl == bh && al == bl:
			al = step(f, al, 1)
		case bl == bh && ah == bl:
			ah = step(f, ah, -1)
		case al == ah && bl == al:
			bl = step(f, bl, 1)
		case al == ah && bh == al:
			bh = step(f, bh, -1)
		}
	}
	if al > ah || bl > bh {
		return none, none
	}
	return rangeOf(f, al, ah), rangeOf(f, bl, bh)
}

// Another op leaves both as they are, an Empty one beside one that is not, too; one of the six leaves nothing then.
func TestRefineOfEmpty(t *testing.T) {
	for _, op := range allOps() {
		related := op >= api.Lt && op <= api.Ne
		for _, f := range formats {
			a, b := rangeOf(f, 0, 1), rangeOf(f, 5, 6)
			if r, s := span.Refine(f, op, a, b); !related && (r != a || s != b) {
				t.Errorf("Refine(%d, %d) = %v, %v", f, op, r, s)
			}
			for _, some := range []api.FloatRange{a, b, rangeOf(f, 0, 0), rangeOf(f, -2, -1), span.Top(f), none} {
				for _, c := range [][2]api.FloatRange{{none, some}, {some, none}} {
					want := c
					if related {
						want = [2]api.FloatRange{none, none}
					}
					if r, s := span.Refine(f, op, c[0], c[1]); r != want[0] || s != want[1] {
						t.Errorf("Refine(%d, %d) of %v = %v, %v; want %v", f, op, c, r, s, want)
					}
				}
			}
		}
	}
}

func TestIntRefineOfEmpty(t *testing.T) {
	for _, op := range allOps() {
		related := op >= api.Lt && op <= api.Ne
		a, b := intsOf(0, 1), intsOf(5, 6)
		if r, s := span.IntRefine(op, a, b); !related && (r != a || s != b) {
			t.Errorf("IntRefine(%d) = %v, %v", op, r, s)
		}
		for _, some := range []api.IntRange{a, b, intsOf(0, 0), intsOf(3, 4), intsOf(-2, -1), span.IntTop(), noInts} {
			for _, c := range [][2]api.IntRange{{noInts, some}, {some, noInts}} {
				want := c
				if related {
					want = [2]api.IntRange{noInts, noInts}
				}
				if r, s := span.IntRefine(op, c[0], c[1]); r != want[0] || s != want[1] {
					t.Errorf("IntRefine(%d) of %v = %v, %v; want %v", op, c, r, s, want)
				}
			}
		}
	}
}

func TestTo(t *testing.T) {
	// Of Doubles that are about the ends of what a Single is.
	most, half := math.MaxFloat32, math.MaxFloat32+0x1p103
	tiny := math.SmallestNonzeroFloat32
	for _, c := range []struct {
		lo, hi, lo2, hi2 float64
		traps            api.Traps
	}{
		{0, 0, 0, 0, 0}, {-1, 1, -1, 1, 0}, {0.1, 0.2, float64(float32(0.1)), float64(float32(0.2)), 0}, {-most, most, -most, most, 0},
		{0, half, 0, most, infTrap}, {0, step(api.Double, half, -1), 0, most, 0}, {-half, 0, -most, 0, infTrap}, {-1e300, 1e300, -most, most, infTrap}, {-math.MaxFloat64, 5, -most, 5, infTrap},
		{-tiny / 2, tiny / 2, 0, 0, 0}, {-tiny * 0.75, tiny * 0.75, -tiny, tiny, 0}, {-5e-324, -5e-324, 0, 0, 0}, {-1, -5e-324, -1, 0, 0}, {16777217, 16777219, 16777216, 16777220, 0},
	} {
		a := rangeOf(api.Double, c.lo, c.hi)
		if r, x := span.To(api.Double, api.Single, a); r != rangeOf(api.Single, c.lo2, c.hi2) || x != c.traps {
			t.Errorf("To(%g..%g) = %v, %d", c.lo, c.hi, r, x)
		}
		if r, x := span.To(7, api.Single, a); r != rangeOf(api.Single, c.lo2, c.hi2) || x != c.traps {
			t.Errorf("To(%g..%g) of no format = %v, %d", c.lo, c.hi, r, x)
		}
	}
	for _, c := range [][2]float64{{half, half}, {1e300, math.MaxFloat64}, {-1e300, -half}} {
		if r, x := span.To(api.Double, api.Single, rangeOf(api.Double, c[0], c[1])); r != none || x != infTrap {
			t.Errorf("To(%g..%g) = %v, %d", c[0], c[1], r, x)
		}
	}
	for _, a := range ranges(api.Single) {
		wide := rangeOf(api.Double, valueOf(api.Single, a.Lo), valueOf(api.Single, a.Hi))
		for _, to := range []api.Format{api.Double, -1, 9} {
			if r, x := span.To(api.Single, to, a); r != wide || x != 0 {
				t.Fatalf("To(Single, %d, %v) = %v, %d", to, a, r, x)
			}
		}
		if r, x := span.To(api.Double, api.Single, wide); r != a || x != 0 {
			t.Fatalf("To(Double, Single, %v) = %v, %d", wide, r, x)
		}
		if r, x := span.To(api.Single, api.Single, a); r != a || x != 0 {
			t.Fatalf("To(Single, Single, %v) = %v, %d", a, r, x)
		}
	}
	for _, a := range ranges(api.Double) {
		for _, f := range []api.Format{api.Double, -1, 9} {
			if r, x := span.To(f, api.Double, a); r != a || x != 0 {
				t.Fatalf("To(%d, Double, %v) = %v, %d", f, a, r, x)
			}
		}
	}
	for _, f := range formats {
		for _, to := range formats {
			if r, x := span.To(f, to, none); r != none || x != 0 {
				t.Errorf("To(%d, %d) of Empty = %v, %d", f, to, r, x)
			}
		}
	}
}

func TestToInt(t *testing.T) {
	const least, most = api.MinInt, api.MaxInt
	for _, c := range []struct {
		lo, hi float64
		want   api.IntRange
		traps  api.Traps
	}{
		{0, 0, intsOf(0, 0), 0}, {-0.9, 0.9, intsOf(0, 0), 0}, {-1.5, 2.5, intsOf(-1, 2), 0}, {1, 2147483648, intsOf(1, most), convTrap}, {1, 2147483647.9, intsOf(1, most), 0}, {1, 2147483647, intsOf(1, most), 0},
		{-2147483648, 0, intsOf(least, 0), 0}, {-2147483648.9, 0, intsOf(least, 0), 0}, {-2147483649, 0, intsOf(least, 0), convTrap}, {-1e300, 1e300, intsOf(least, most), convTrap},
		{2147483648, 2147483649, noInts, convTrap}, {2147483648, math.MaxFloat64, noInts, convTrap}, {-math.MaxFloat64, -2147483649, noInts, convTrap}, {-2147483649, -2147483648.5, intsOf(least, least), convTrap}, {2147483647.5, 1e10, intsOf(most, most), convTrap},
	} {
		for _, f := range []api.Format{api.Double, 5} {
			if r, x := span.ToInt(f, rangeOf(f, c.lo, c.hi)); r != c.want || x != c.traps {
				t.Errorf("ToInt(%g..%g) = %v, %d; want %v, %d", c.lo, c.hi, r, x, c.want, c.traps)
			}
		}
	}
	for _, c := range []struct {
		lo, hi float64
		want   api.IntRange
		traps  api.Traps
	}{
		{-1.5, 2147483520, intsOf(-1, 2147483520), 0}, {-1.5, 2147483648, intsOf(-1, most), convTrap}, {-2147483648, 1, intsOf(least, 1), 0}, {-2147483904, 1, intsOf(least, 1), convTrap}, {3e9, 3e38, noInts, convTrap},
	} {
		if r, x := span.ToInt(api.Single, rangeOf(api.Single, c.lo, c.hi)); r != c.want || x != c.traps {
			t.Errorf("ToInt(%g..%g) of Singles = %v, %d; want %v, %d", c.lo, c.hi, r, x, c.want, c.traps)
		}
	}
	for _, f := range formats {
		if r, x := span.ToInt(f, none); r != noInts || x != 0 {
			t.Errorf("ToInt(%d) of Empty = %v, %d", f, r, x)
		}
	}
}

func TestFromInt(t *testing.T) {
	for _, f := range formats {
		if r := span.FromInt(f, noInts); r != none {
			t.Errorf("FromInt(%d) of Empty = %v", f, r)
		}
		for _, a := range append(smallInts(5)[1:], greatRanges()...) {
			if r := span.FromInt(f, a); r != rangeOf(f, float64(a.Lo), float64(a.Hi)) {
				t.Errorf("FromInt(%d, %v) = %v", f, a, r)
			}
		}
	}
	if r := span.FromInt(api.Single, intsOf(16777217, 16777219)); r != rangeOf(api.Single, 16777216, 16777220) {
		t.Errorf("FromInt = %v", r)
	}
}
