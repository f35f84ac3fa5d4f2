package span_test

import (
	"math"
	"testing"

	"plumbline/api"
	"plumbline/span"
)

var fourOps = []api.Op{api.Add, api.Sub, api.Mul, api.Div}

// wantTwo is what the words ask of Two, by the machine's floats.
func wantTwo(f api.Format, op api.Op, a, b api.FloatRange) (api.FloatRange, api.Traps) {
	al, ah, bl, bh := valueOf(f, a.Lo), valueOf(f, a.Hi), valueOf(f, b.Lo), valueOf(f, b.Hi)
	seconds := []float64{bl, bh}
	var traps api.Traps
	if op == api.Div {
		seconds = nil
		if bl < 0 {
			seconds = append(seconds, bl, min(bh, -leastOf(f)))
		}
		if bh > 0 {
			seconds = append(seconds, max(bl, leastOf(f)), bh)
		}
		zero := bl <= 0 && bh >= 0
		if zero && al <= 0 && ah >= 0 {
			traps |= nanTrap
		}
		if zero && (al != 0 || ah != 0) {
			traps |= infTrap
		}
	}
	var results []float64
	for _, y := range seconds {
		results = append(results, near(f, op, al, y), near(f, op, ah, y))
	}
	r, more := clipped(f, results...)
	return r, traps | more
}

func TestTwo(t *testing.T) {
	for _, f := range bothFormats {
		all := ranges(f)
		told := map[api.Traps]int{}
		for k, a := range all {
			for at := k % 3; at < len(all); at += 3 {
				b := all[at]
				for _, op := range fourOps {
					want, traps := wantTwo(f, op, a, b)
					if r, x := span.Two(f, op, a, b); r != want || x != traps || !span.Right(f, r) {
						t.Fatalf("Two(%d, %d, %g..%g, %g..%g) = %v, %d; want %v, %d", f, op, valueOf(f, a.Lo), valueOf(f, a.Hi), valueOf(f, b.Lo), valueOf(f, b.Hi), r, x, want, traps)
					}
					told[traps]++
				}
			}
		}
		for _, x := range []api.Traps{0, nanTrap, infTrap, nanTrap | infTrap} {
			if told[x] == 0 {
				t.Errorf("%d: %d is never told", f, x)
			}
		}
	}
}

// What is written out here is told by hand.
func TestTwoByHand(t *testing.T) {
	for _, f := range formats {
		most, least := mostOf(f), leastOf(f)
		for _, c := range []struct {
			op             api.Op
			al, ah, bl, bh float64
			lo, hi         float64
			traps          api.Traps
		}{
			{api.Add, 1, 2, 3, 5, 4, 7, 0}, {api.Add, -1, 2, -3, 5, -4, 7, 0}, {api.Add, -2, -1, 1, 2, -1, 1, 0}, {api.Add, most, most, -most, 0, 0, most, 0},
			{api.Add, 0, most, 0, most, 0, most, infTrap}, {api.Add, -most, 0, -most, 0, -most, 0, infTrap}, {api.Add, -most, most, -most, most, -most, most, infTrap}, {api.Add, most, most, 1, 1, most, most, 0},
			{api.Sub, 1, 2, 3, 5, -4, -1, 0}, {api.Sub, 1, 1, 1, 1, 0, 0, 0}, {api.Sub, -1, 0, 0, most, -most, 0, 0}, {api.Sub, -most, 0, 0, most, -most, 0, infTrap}, {api.Sub, 0, most, -most, 0, 0, most, infTrap},
			{api.Mul, 1, 2, 3, 5, 3, 10, 0}, {api.Mul, -1, 2, 3, 5, -5, 10, 0}, {api.Mul, -1, 2, -3, 5, -6, 10, 0}, {api.Mul, -2, -1, -5, -3, 3, 10, 0}, {api.Mul, -2, -1, 3, 5, -10, -3, 0}, {api.Mul, 0, 0, -5, 5, 0, 0, 0},
			{api.Mul, -2, 3, 0, 0, 0, 0, 0}, {api.Mul, -least, 0, least, 1, -least, 0, 0}, {api.Mul, -least, -least, 0.25, 0.25, 0, 0, 0}, {api.Mul, 0.5, most, 1, 2, 0.5, most, infTrap}, {api.Mul, -most, 1, 1, 2, -most, 2, infTrap},
			{api.Div, 1, 2, 2, 4, 0.25, 1, 0}, {api.Div, 1, 2, -4, -2, -1, -0.25, 0}, {api.Div, -2, 2, 2, 4, -1, 1, 0}, {api.Div, -8, -4, -4, -2, 1, 4, 0}, {api.Div, 0, 0, 2, 4, 0, 0, 0},
			{api.Div, 1, 2, 0, 2, 0.5, most, infTrap}, {api.Div, 1, 2, -2, 0, -most, -0.5, infTrap}, {api.Div, 1, 2, -1, 2, -most, most, infTrap}, {api.Div, -2, -1, 0, 2, -most, -0.5, infTrap},
			{api.Div, 0, 1, 0, 1, 0, most, infTrap | nanTrap}, {api.Div, -1, 1, -1, 1, -most, most, infTrap | nanTrap}, {api.Div, 0, 0, -1, 1, 0, 0, nanTrap}, {api.Div, 0, 0, 0, 1, 0, 0, nanTrap}, {api.Div, 0, 0, -1, 0, 0, 0, nanTrap},
			{api.Div, least, least, 0, least, 1, 1, infTrap}, {api.Div, 1, most, 0.5, 1, 1, most, infTrap}, {api.Div, -least, -least, 4, 4, 0, 0, 0},
		} {
			a, b := rangeOf(f, c.al, c.ah), rangeOf(f, c.bl, c.bh)
			if r, x := span.Two(f, c.op, a, b); r != rangeOf(f, c.lo, c.hi) || x != c.traps {
				t.Errorf("Two(%d, %d, %g..%g, %g..%g) = %g..%g (%v), %d; want %g..%g, %d", f, c.op, c.al, c.ah, c.bl, c.bh, valueOf(f, r.Lo), valueOf(f, r.Hi), r, x, c.lo, c.hi, c.traps)
			}
		}
		for _, c := range []struct {
			op             api.Op
			al, ah, bl, bh float64
			traps          api.Traps
		}{
			{api.Add, most, most, most, most, infTrap}, {api.Sub, -most, -most, most, most, infTrap}, {api.Mul, most, most, 2, 3, infTrap}, {api.Mul, most, most, -3, -2, infTrap},
			{api.Div, most, most, 0.25, 0.5, infTrap}, {api.Div, 1, 1, least, least, infTrap}, {api.Div, 1, 1, -least, -least, infTrap},
			{api.Div, 1, 2, 0, 0, infTrap}, {api.Div, -2, -1, 0, 0, infTrap}, {api.Div, 0, 0, 0, 0, nanTrap}, {api.Div, 0, 1, 0, 0, nanTrap | infTrap}, {api.Div, -1, 0, 0, 0, nanTrap | infTrap}, {api.Div, -1, 1, 0, 0, nanTrap | infTrap},
			{api.Div, most, most, 0, least, infTrap},
		} {
			a, b := rangeOf(f, c.al, c.ah), rangeOf(f, c.bl, c.bh)
			if r, x := span.Two(f, c.op, a, b); r != none || x != c.traps {
				t.Errorf("Two(%d, %d, %g..%g, %g..%g) = %v, %d; want Empty, %d", f, c.op, c.al, c.ah, c.bl, c.bh, r, x, c.traps)
			}
		}
	}
}

func TestTwoOfNothing(t *testing.T) {
	for _, f := range formats {
		a := rangeOf(f, 0, 1)
		for _, op := range allOps() {
			for _, c := range [][2]api.FloatRange{{none, a}, {a, none}, {none, none}, {none, rangeOf(f, 0, 0)}} {
				if r, x := span.Two(f, op, c[0], c[1]); r != none || x != 0 {
					t.Errorf("Two(%d, %d) of %v: %v, %d", f, op, c, r, x)
				}
			}
			if op >= api.Add && op <= api.Div {
				continue
			}
			if r, x := span.Two(f, op, a, rangeOf(f, 0, 0)); r != none || x != 0 {
				t.Errorf("Two(%d, %d) = %v, %d", f, op, r, x)
			}
		}
	}
}

// trueInt is what two ints come to, or a trap.
func trueInt(op api.Op, x, y int64) (int64, api.Traps) {
	var r int64
	switch op {
	case api.Add:
		r = x + y
	case api.Sub:
		r = x - y
	case api.Mul:
		r = x * y
	default:
		if y == 0 {
			return 0, zeroTrap
		}
		r = x / y
	}
	if r != int64(int32(r)) {
		return 0, overTrap
	}
	return r, 0
}

// Of small ints the range is the least one that has all results.
func TestIntTwoOfSmallOnes(t *testing.T) {
	for _, op := range fourOps {
		for _, a := range smallInts(6) {
			for _, b := range smallInts(6) {
				var results []int64
				var traps api.Traps
				for _, x := range members(a) {
					for _, y := range members(b) {
						r, trap := trueInt(op, x, y)
						traps |= trap
						if trap == 0 {
							results = append(results, r)
						}
					}
				}
				if r, x := span.IntTwo(op, a, b); r != hull(results) || x != traps {
					t.Fatalf("IntTwo(%d, %v, %v) = %v, %d; want %v, %d", op, a, b, r, x, hull(results), traps)
				}
			}
		}
	}
}

// greatInts are ints at which something turns, rising.
func greatInts() []int64 {
	return []int64{api.MinInt, api.MinInt + 1, -1 << 30, -46341, -46340, -2, -1, 0, 1, 2, 46340, 46341, 1 << 30, api.MaxInt - 1, api.MaxInt}
}

func greatRanges() []api.IntRange {
	var all []api.IntRange
	l := greatInts()
	for k, lo := range l {
		for _, hi := range l[k:] {
			all = append(all, intsOf(lo, hi))
		}
	}
	return all
}

// clippedInts is from the least to the greatest of results, and the trap of those that are none.
func clippedInts(trap api.Traps, l ...int64) (api.IntRange, api.Traps) {
	r := hull(l)
	if r.Empty || r.Lo >= api.MinInt && r.Hi <= api.MaxInt {
		return r, 0
	}
	if r.Lo > api.MaxInt || r.Hi < api.MinInt {
		return noInts, trap
	}
	return intsOf(max(r.Lo, api.MinInt), min(r.Hi, api.MaxInt)), trap
}

func TestIntTwoOfGreatOnes(t *testing.T) {
	told := map[api.Traps]int{}
	for _, a := range greatRanges() {
		for _, b := range greatRanges() {
			for _, op := range fourOps {
				seconds := []int64{b.Lo, b.Hi}
				var zero api.Traps
				if op == api.Div {
					seconds = nil
					if b.Lo < 0 {
						seconds = append(seconds, b.Lo, min(b.Hi, -1))
					}
					if b.Hi > 0 {
						seconds = append(seconds, max(b.Lo, 1), b.Hi)
					}
					if b.Lo <= 0 && b.Hi >= 0 {
						zero = zeroTrap
					}
				}
				var results []int64
				for _, y := range seconds {
					for _, x := range []int64{a.Lo, a.Hi} {
						results = append(results, [...]int64{api.Add: x + y, api.Sub: x - y, api.Mul: x * y, api.Div: 0}[op])
						if op == api.Div {
							results[len(results)-1] = x / y
						}
					}
				}
				want, traps := clippedInts(overTrap, results...)
				if r, x := span.IntTwo(op, a, b); r != want || x != traps|zero {
					t.Fatalf("IntTwo(%d, %v, %v) = %v, %d; want %v, %d", op, a, b, r, x, want, traps|zero)
				}
				told[traps|zero]++
			}
		}
	}
	for _, x := range []api.Traps{0, overTrap, zeroTrap, overTrap | zeroTrap} {
		if told[x] == 0 {
			t.Errorf("%d is never told", x)
		}
	}
}

func TestIntTwoByHand(t *testing.T) {
	const least, most = api.MinInt, api.MaxInt
	for _, c := range []struct {
		op         api.Op
		a, b, want api.IntRange
		traps      api.Traps
	}{
		{api.Mul, intsOf(1, 3), intsOf(-2, 2), intsOf(-6, 6), 0},
		{api.Div, intsOf(1, 1), intsOf(-1, 1), intsOf(-1, 1), zeroTrap},
		{api.Add, intsOf(0, most), intsOf(1, 1), intsOf(1, most), overTrap},
		{api.Add, intsOf(most, most), intsOf(1, 2), noInts, overTrap},
		{api.Add, intsOf(least, 0), intsOf(-1, 0), intsOf(least, 0), overTrap},
		{api.Sub, intsOf(least, 5), intsOf(1, 1), intsOf(least, 4), overTrap},
		{api.Sub, intsOf(least, least), intsOf(1, 9), noInts, overTrap},
		{api.Sub, intsOf(0, 0), intsOf(least, least), noInts, overTrap},
		{api.Mul, intsOf(least, most), intsOf(least, most), intsOf(least, most), overTrap},
		{api.Mul, intsOf(1<<16, 1<<16), intsOf(1<<15, 1<<15), noInts, overTrap},
		{api.Mul, intsOf(1<<16, 1<<16), intsOf(-1<<15, -1<<15), intsOf(least, least), 0},
		{api.Div, intsOf(least, least), intsOf(-1, -1), noInts, overTrap},
		{api.Div, intsOf(least, 0), intsOf(-1, -1), intsOf(0, most), overTrap},
		{api.Div, intsOf(least, least), intsOf(-1, 1), intsOf(least, most), overTrap | zeroTrap},
		{api.Div, intsOf(least, least), intsOf(-1, 0), noInts, overTrap | zeroTrap},
		{api.Div, intsOf(5, 9), intsOf(0, 0), noInts, zeroTrap},
		{api.Div, intsOf(0, 0), intsOf(0, 0), noInts, zeroTrap},
		{api.Div, intsOf(7, 7), intsOf(2, 2), intsOf(3, 3), 0},
		{api.Div, intsOf(-7, -7), intsOf(2, 2), intsOf(-3, -3), 0},
		{api.Div, intsOf(-7, 9), intsOf(2, 4), intsOf(-3, 4), 0},
		{api.Div, intsOf(1, 1), intsOf(2, 4), intsOf(0, 0), 0},
	} {
		if r, x := span.IntTwo(c.op, c.a, c.b); r != c.want || x != c.traps {
			t.Errorf("IntTwo(%d, %v, %v) = %v, %d; want %v, %d", c.op, c.a, c.b, r, x, c.want, c.traps)
		}
	}
	for _, op := range allOps() {
		for _, c := range [][2]api.IntRange{{noInts, intsOf(0, 1)}, {intsOf(0, 1), noInts}, {noInts, noInts}} {
			if r, x := span.IntTwo(op, c[0], c[1]); r != noInts || x != 0 {
				t.Errorf("IntTwo(%d) of %v: %v, %d", op, c, r, x)
			}
		}
		if r, x := span.IntTwo(op, intsOf(0, 1), intsOf(0, 0)); (op < api.Add || op > api.Div) && (r != noInts || x != 0) {
			t.Errorf("IntTwo(%d) = %v, %d", op, r, x)
		}
	}
}

func TestOne(t *testing.T) {
	for _, f := range formats {
		for _, a := range ranges(f) {
			lo, hi := valueOf(f, a.Lo), valueOf(f, a.Hi)
			checkOne(t, f, api.Neg, a, rangeOf(f, -hi, -lo), 0)
			abs := rangeOf(f, min(math.Abs(lo), math.Abs(hi)), max(math.Abs(lo), math.Abs(hi)))
			if lo < 0 && hi > 0 {
				abs = rangeOf(f, 0, max(-lo, hi))
			}
			checkOne(t, f, api.Abs, a, abs, 0)
			switch {
			case hi < 0:
				checkOne(t, f, api.Sqrt, a, none, nanTrap)
			case lo < 0:
				checkOne(t, f, api.Sqrt, a, rangeOf(f, 0, root(f, hi)), nanTrap)
			default:
				checkOne(t, f, api.Sqrt, a, rangeOf(f, root(f, lo), root(f, hi)), 0)
			}
		}
		for _, op := range allOps() {
			checkOne(t, f, op, none, none, 0)
			if op != api.Neg && op != api.Abs && op != api.Sqrt {
				checkOne(t, f, op, rangeOf(f, -1, 1), none, 0)
			}
		}
		checkOne(t, f, api.Sqrt, rangeOf(f, 4, 9), rangeOf(f, 2, 3), 0)
		checkOne(t, f, api.Sqrt, rangeOf(f, -1, 0), rangeOf(f, 0, 0), nanTrap)
		checkOne(t, f, api.Sqrt, rangeOf(f, 0, 0), rangeOf(f, 0, 0), 0)
		checkOne(t, f, api.Sqrt, rangeOf(f, -leastOf(f), -leastOf(f)), none, nanTrap)
	}
}

func checkOne(t *testing.T, f api.Format, op api.Op, a, want api.FloatRange, traps api.Traps) {
	t.Helper()
	if r, x := span.One(f, op, a); r != want || x != traps {
		t.Fatalf("One(%d, %d, %v) = %v, %d; want %v, %d", f, op, a, r, x, want, traps)
	}
}

func TestIntOne(t *testing.T) {
	for _, a := range append(smallInts(5), greatRanges()...) {
		var neg, abs []int64
		if !a.Empty {
			neg, abs = []int64{-a.Lo, -a.Hi}, []int64{max(a.Lo, -a.Lo), max(a.Hi, -a.Hi)}
		}
		if a.Lo < 0 && a.Hi > 0 {
			abs = append(abs, 0)
		}
		want, traps := clippedInts(overTrap, neg...)
		if r, x := span.IntOne(api.Neg, a); r != want || x != traps {
			t.Fatalf("IntOne(Neg, %v) = %v, %d; want %v, %d", a, r, x, want, traps)
		}
		want, traps = clippedInts(overTrap, abs...)
		if r, x := span.IntOne(api.Abs, a); r != want || x != traps {
			t.Fatalf("IntOne(Abs, %v) = %v, %d; want %v, %d", a, r, x, want, traps)
		}
	}
	for _, op := range allOps() {
		if r, x := span.IntOne(op, noInts); r != noInts || x != 0 {
			t.Errorf("IntOne(%d) of Empty = %v, %d", op, r, x)
		}
		if op == api.Neg || op == api.Abs {
			continue
		}
		for _, a := range []api.IntRange{intsOf(-4, 4), intsOf(4, 9), span.IntTop()} {
			if r, x := span.IntOne(op, a); r != noInts || x != 0 {
				t.Errorf("IntOne(%d, %v) = %v, %d", op, a, r, x)
			}
		}
	}
	for _, c := range []struct {
		op      api.Op
		a, want api.IntRange
		traps   api.Traps
	}{
		{api.Neg, intsOf(api.MinInt, 5), intsOf(-5, api.MaxInt), overTrap}, {api.Neg, intsOf(api.MinInt, api.MinInt), noInts, overTrap}, {api.Neg, intsOf(api.MinInt+1, api.MaxInt), intsOf(api.MinInt+1, api.MaxInt), 0},
		{api.Abs, intsOf(api.MinInt, 5), intsOf(0, api.MaxInt), overTrap}, {api.Abs, intsOf(api.MinInt, api.MinInt), noInts, overTrap}, {api.Abs, intsOf(api.MinInt, -7), intsOf(7, api.MaxInt), overTrap}, {api.Abs, intsOf(-3, 0), intsOf(0, 3), 0},
	} {
		if r, x := span.IntOne(c.op, c.a); r != c.want || x != c.traps {
			t.Errorf("IntOne(%d, %v) = %v, %d; want %v, %d", c.op, c.a, r, x, c.want, c.traps)
		}
	}
}
