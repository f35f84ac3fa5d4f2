package span_test

import (
	"math"
	"testing"

	"plumbline/api"
	"plumbline/span"
)

func TestExamples(t *testing.T) {
	if r, x := span.IntTwo(api.Mul, span.IntOf(1, 3), span.IntOf(-2, 2)); r != span.IntOf(-6, 6) || x != 0 {
		t.Error(r, x)
	}
	if r, x := span.IntTwo(api.Div, span.IntOf(1, 1), span.IntOf(-1, 1)); r != span.IntOf(-1, 1) || x != zeroTrap {
		t.Error(r, x)
	}
}

// trapOf is the trap of a result.
func trapOf(x float64) api.Traps {
	switch {
	case x != x:
		return nanTrap
	case x-x != 0:
		return infTrap
	}
	return 0
}

// covers tells whether a result lies in what is told, or is a trap that is told.
func covers(f api.Format, r api.FloatRange, traps api.Traps, x float64) bool {
	if trap := trapOf(x); trap != 0 {
		return traps&trap != 0
	}
	return span.Has(f, r, bitsOf(f, x))
}

// P8.6: what numbers of ranges come to lies in what is told.
func TestSound(t *testing.T) {
	d := dice(88172645463325252)
	for round := range 40000 {
		f := bothFormats[round%2]
		a, b := d.floatRange(f), d.floatRange(f)
		x, y := d.within(f, a), d.within(f, b)
		if !span.Has(f, a, bitsOf(f, x)) || !span.Has(f, b, bitsOf(f, y)) {
			t.Fatalf("%g is not in %v, or %g in %v", x, a, y, b)
		}
		for _, op := range fourOps {
			if r, traps := span.Two(f, op, a, b); !covers(f, r, traps, near(f, op, x, y)) {
				t.Fatalf("Two(%d, %d, %v, %v) = %v, %d, but %g and %g come to %g", f, op, a, b, r, traps, x, y, near(f, op, x, y))
			}
		}
		for op, want := range map[api.Op]float64{api.Neg: -x, api.Abs: math.Abs(x), api.Sqrt: root(f, x)} {
			if r, traps := span.One(f, op, a); !covers(f, r, traps, want) {
				t.Fatalf("One(%d, %d, %v) = %v, %d, but %g comes to %g", f, op, a, r, traps, x, want)
			}
		}
		for _, op := range relations {
			r, s := span.Refine(f, op, a, b)
			if stands(op, x, y) && (!span.Has(f, r, bitsOf(f, x)) || !span.Has(f, s, bitsOf(f, y))) {
				t.Fatalf("Refine(%d, %d, %v, %v) = %v, %v has lost %g, %g", f, op, a, b, r, s, x, y)
			}
		}
		for _, to := range bothFormats {
			want := valueOf(to, bitsOf(to, x))
			if r, traps := span.To(f, to, a); !covers(to, r, traps, want) {
				t.Fatalf("To(%d, %d, %v) = %v, %d, but %g is %g", f, to, a, r, traps, x, want)
			}
		}
		r, traps := span.ToInt(f, a)
		if whole := math.Trunc(x); whole < api.MinInt || whole > api.MaxInt {
			if traps != convTrap {
				t.Fatalf("ToInt(%d, %v) = %v, %d, but %g is none", f, a, r, traps, x)
			}
		} else if !span.IntHas(r, int64(whole)) {
			t.Fatalf("ToInt(%d, %v) = %v, %d has lost %g", f, a, r, traps, x)
		}
	}
}

// int is any of 32 bits, or one at which something turns.
func (d *dice) int() int64 {
	l := greatInts()
	switch d.below(3) {
	case 0:
		return l[d.below(len(l))]
	case 1:
		return int64(d.below(21)) - 10
	}
	return int64(int32(d.next())) >> d.below(31)
}

func (d *dice) intRange() api.IntRange {
	x, y := d.int(), d.int()
	if d.below(4) == 0 {
		y = x
	}
	return intsOf(min(x, y), max(x, y))
}

func (d *dice) withinInts(a api.IntRange) int64 {
	return a.Lo + int64(d.next()%uint64(a.Hi-a.Lo+1))
}

func TestIntSound(t *testing.T) {
	d := dice(362436069)
	for range 60000 {
		a, b := d.intRange(), d.intRange()
		x, y := d.withinInts(a), d.withinInts(b)
		for _, op := range fourOps {
			want, trap := trueInt(op, x, y)
			if r, traps := span.IntTwo(op, a, b); trap&^traps != 0 || trap == 0 && !span.IntHas(r, want) {
				t.Fatalf("IntTwo(%d, %v, %v) = %v, %d has lost %d, %d", op, a, b, r, traps, x, y)
			}
		}
		for op, want := range map[api.Op]int64{api.Neg: -x, api.Abs: max(x, -x)} {
			if r, traps := span.IntOne(op, a); want > api.MaxInt && traps != overTrap || want <= api.MaxInt && !span.IntHas(r, want) {
				t.Fatalf("IntOne(%d, %v) = %v, %d has lost %d", op, a, r, traps, x)
			}
		}
		for _, op := range relations {
			r, s := span.IntRefine(op, a, b)
			if stands(op, x, y) && (!span.IntHas(r, x) || !span.IntHas(s, y)) {
				t.Fatalf("IntRefine(%d, %v, %v) = %v, %v has lost %d, %d", op, a, b, r, s, x, y)
			}
		}
		for _, f := range bothFormats {
			if r := span.FromInt(f, a); !span.Has(f, r, bitsOf(f, float64(x))) {
				t.Fatalf("FromInt(%d, %v) = %v has lost %d", f, a, r, x)
			}
		}
		w := span.IntWiden(a, b, y, x, 1<<40)
		if !span.IntRight(w) || !span.IntWithin(span.IntJoin(a, b), w) {
			t.Fatalf("IntWiden(%v, %v) = %v", a, b, w)
		}
	}
}

// just tells whether what is told is a result alone, or its trap.
func just(f api.Format, r api.FloatRange, traps api.Traps, x float64) bool {
	if trap := trapOf(x); trap != 0 {
		return r == none && traps == trap
	}
	return r == rangeOf(f, x, x) && traps == 0
}

// P8.7: of ranges of one number the range has just the result, and the trap just if it is one.
func TestOfOneNumber(t *testing.T) {
	for _, f := range bothFormats {
		for _, x := range edges(f) {
			a := rangeOf(f, x, x)
			for _, y := range edges(f) {
				b := rangeOf(f, y, y)
				for _, op := range fourOps {
					if r, traps := span.Two(f, op, a, b); !just(f, r, traps, near(f, op, x, y)) {
						t.Fatalf("Two(%d, %d, %g, %g) = %v, %d", f, op, x, y, r, traps)
					}
				}
				for _, op := range relations {
					wantA, wantB := a, b
					if !stands(op, x, y) {
						wantA, wantB = none, none
					}
					if r, s := span.Refine(f, op, a, b); r != wantA || s != wantB {
						t.Fatalf("Refine(%d, %d, %g, %g) = %v, %v", f, op, x, y, r, s)
					}
				}
			}
			for op, want := range map[api.Op]float64{api.Neg: -x, api.Abs: math.Abs(x), api.Sqrt: root(f, x)} {
				if r, traps := span.One(f, op, a); !just(f, r, traps, want) {
					t.Fatalf("One(%d, %d, %g) = %v, %d", f, op, x, r, traps)
				}
			}
			for _, to := range bothFormats {
				if r, traps := span.To(f, to, a); !just(to, r, traps, valueOf(to, bitsOf(to, x))) {
					t.Fatalf("To(%d, %d, %g) = %v, %d", f, to, x, r, traps)
				}
			}
		}
	}
}

func TestOfOneInt(t *testing.T) {
	d := dice(5)
	for range 30000 {
		x, y := d.int(), d.int()
		a, b := intsOf(x, x), intsOf(y, y)
		for _, op := range fourOps {
			n, trap := trueInt(op, x, y)
			want := intsOf(n, n)
			if trap != 0 {
				want = noInts
			}
			if r, traps := span.IntTwo(op, a, b); r != want || traps != trap {
				t.Fatalf("IntTwo(%d, %d, %d) = %v, %d; want %v, %d", op, x, y, r, traps, want, trap)
			}
		}
		for _, op := range relations {
			wantA, wantB := a, b
			if !stands(op, x, y) {
				wantA, wantB = noInts, noInts
			}
			if r, s := span.IntRefine(op, a, b); r != wantA || s != wantB {
				t.Fatalf("IntRefine(%d, %d, %d) = %v, %v", op, x, y, r, s)
			}
		}
		for _, f := range bothFormats {
			r, traps := span.ToInt(f, span.FromInt(f, a))
			if n := int64(valueOf(f, bitsOf(f, float64(x)))); n <= api.MaxInt && (r != intsOf(n, n) || traps != 0) || n > api.MaxInt && (r != noInts || traps != convTrap) {
				t.Fatalf("ToInt of FromInt(%d, %d) = %v, %d", f, x, r, traps)
			}
		}
	}
}

// P8.8: more numbers in, more out.
func TestMoreInMoreOut(t *testing.T) {
	d := dice(521288629)
	for round := range 12000 {
		f := bothFormats[round%2]
		a, b := d.floatRange(f), d.floatRange(f)
		if d.below(20) == 0 {
			a = none
		}
		c, e := d.wider(f, a), d.wider(f, b)
		for _, op := range allOps() {
			r, x := span.Two(f, op, a, b)
			s, y := span.Two(f, op, c, e)
			if !span.Within(f, r, s) || x&^y != 0 {
				t.Fatalf("Two(%d, %d) of %v, %v: %v, %d; of %v, %v: %v, %d", f, op, a, b, r, x, c, e, s, y)
			}
			r, x = span.One(f, op, a)
			s, y = span.One(f, op, c)
			if !span.Within(f, r, s) || x&^y != 0 {
				t.Fatalf("One(%d, %d) of %v: %v, %d; of %v: %v, %d", f, op, a, r, x, c, s, y)
			}
			r, s = span.Refine(f, op, a, b)
			r2, s2 := span.Refine(f, op, c, e)
			if !span.Within(f, r, r2) || !span.Within(f, s, s2) {
				t.Fatalf("Refine(%d, %d) of %v, %v: %v, %v; of %v, %v: %v, %v", f, op, a, b, r, s, c, e, r2, s2)
			}
		}
		for _, to := range bothFormats {
			r, x := span.To(f, to, a)
			s, y := span.To(f, to, c)
			if !span.Within(to, r, s) || x&^y != 0 {
				t.Fatalf("To(%d, %d) of %v: %v, %d; of %v: %v, %d", f, to, a, r, x, c, s, y)
			}
		}
		r, x := span.ToInt(f, a)
		s, y := span.ToInt(f, c)
		if !span.IntWithin(r, s) || x&^y != 0 || !span.Within(f, span.FromInt(f, r), span.FromInt(f, s)) {
			t.Fatalf("ToInt(%d) of %v: %v, %d; of %v: %v, %d", f, a, r, x, c, s, y)
		}
		if !span.Within(f, span.Meet(f, a, b), span.Meet(f, c, e)) || !span.Within(f, span.Join(f, a, b), span.Join(f, c, e)) {
			t.Fatalf("Meet or Join(%d) of %v, %v and of %v, %v", f, a, b, c, e)
		}
	}
}

func TestMoreIntsInMoreOut(t *testing.T) {
	d := dice(1234567)
	for range 40000 {
		a, b := d.intRange(), d.intRange()
		c, e := span.IntJoin(a, d.intRange()), span.IntJoin(b, d.intRange())
		if d.below(20) == 0 {
			a = noInts
		}
		for _, op := range allOps() {
			r, x := span.IntTwo(op, a, b)
			s, y := span.IntTwo(op, c, e)
			if !span.IntWithin(r, s) || x&^y != 0 {
				t.Fatalf("IntTwo(%d) of %v, %v: %v, %d; of %v, %v: %v, %d", op, a, b, r, x, c, e, s, y)
			}
			r, x = span.IntOne(op, a)
			s, y = span.IntOne(op, c)
			if !span.IntWithin(r, s) || x&^y != 0 {
				t.Fatalf("IntOne(%d) of %v: %v, %d; of %v: %v, %d", op, a, r, x, c, s, y)
			}
			r, s = span.IntRefine(op, a, b)
			r2, s2 := span.IntRefine(op, c, e)
			if !span.IntWithin(r, r2) || !span.IntWithin(s, s2) {
				t.Fatalf("IntRefine(%d) of %v, %v: %v, %v; of %v, %v: %v, %v", op, a, b, r, s, c, e, r2, s2)
			}
		}
	}
}

// P1: calls end also of ranges that are not right, and none panics.
func TestCallsEnd(t *testing.T) {
	for _, f := range formats {
		wrong := append(wrongRanges(f), none, topOf(f), rangeOf(f, -1, 1))
		for _, a := range wrong {
			span.Has(f, a, 0)
			span.Has(f, a, math.MaxUint64)
			span.ToInt(f, a)
			for _, to := range formats {
				span.To(f, to, a)
			}
			for _, b := range wrong {
				span.Meet(f, a, b)
				span.Join(f, a, b)
				span.Widen(f, a, b)
				span.Within(f, a, b)
				for _, op := range allOps() {
					span.Two(f, op, a, b)
					span.One(f, op, a)
					span.Refine(f, op, a, b)
				}
			}
		}
	}
	wrong := append(wrongInts(), noInts, span.IntTop(), intsOf(-1, 1), intsOf(0, 0))
	for _, a := range wrong {
		span.IntHas(a, math.MinInt64)
		for _, f := range formats {
			span.FromInt(f, a)
		}
		for _, b := range wrong {
			span.IntMeet(a, b)
			span.IntJoin(a, b)
			span.IntWiden(a, b, math.MinInt64, 0, math.MaxInt64)
			span.IntWithin(a, b)
			for _, op := range allOps() {
				span.IntTwo(op, a, b)
				span.IntOne(op, a)
				span.IntRefine(op, a, b)
			}
		}
	}
}

// What is told is right, of ranges that are.
func TestWhatIsToldIsRight(t *testing.T) {
	d := dice(31)
	for round := range 6000 {
		f := bothFormats[round%2]
		a, b := d.floatRange(f), d.floatRange(f)
		if d.below(20) == 0 {
			b = none
		}
		told := []api.FloatRange{span.Of(f, a.Lo, b.Hi), span.Meet(f, a, b), span.Join(f, a, b), span.Widen(f, a, b), span.FromInt(f, d.intRange())}
		for _, op := range allOps() {
			two, _ := span.Two(f, op, a, b)
			one, _ := span.One(f, op, a)
			r, s := span.Refine(f, op, a, b)
			told = append(told, two, one, r, s)
		}
		for _, r := range told {
			if !span.Right(f, r) {
				t.Fatalf("%d: of %v and %v %v", f, a, b, r)
			}
		}
		for _, to := range bothFormats {
			if r, _ := span.To(f, to, a); !span.Right(to, r) {
				t.Fatalf("To(%d, %d, %v) = %v", f, to, a, r)
			}
		}
		if r, _ := span.ToInt(f, a); !span.IntRight(r) {
			t.Fatalf("ToInt(%d, %v) = %v", f, a, r)
		}
	}
}
