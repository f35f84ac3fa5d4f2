package octagon_test

import (
	"math"
	"testing"

	"plumbline/api"
	"plumbline/octagon"
)

func TestNew(t *testing.T) {
	for _, n := range []int{0, -1, api.MaxInts + 1, 100, math.MinInt, math.MaxInt} {
		if octagon.New(n) != nil {
			t.Errorf("New(%d) is not nil", n)
		}
	}
	for n := 1; n <= api.MaxInts; n++ {
		o := octagon.New(n)
		if o.Vars() != n || o.Empty() {
			t.Errorf("New(%d): %s", n, told(o))
		}
		for _, a := range sidesOf(n) {
			if o.Range(a.v) != ints(api.MinInt, api.MaxInt) {
				t.Errorf("New(%d): range %v", n, o.Range(a.v))
			}
			for _, b := range sidesOf(n) {
				want := int64(2 * edge)
				if a == b.other() {
					want = 0
				}
				if got := bound(o, a, b); got != want {
					t.Errorf("New(%d): bound of %v and %v is %d", n, a, b, got)
				}
			}
		}
		checkBoxEnds(t, o)
	}
}

// checkBoxEnds asks the whole box for points at its ends, past them, and of other lengths.
func checkBoxEnds(t *testing.T, o *octagon.Oct) {
	t.Helper()
	n := o.Vars()
	for _, x := range []int64{0, edge, -edge, 1 << 31, edge + 1, -edge - 1, math.MinInt64, math.MaxInt64, math.MaxInt64 / 2, 1 << 62} {
		for v := range n {
			l := make([]int64, n)
			l[v] = x
			if o.Has(l...) != (x >= -edge && x <= edge) {
				t.Errorf("the box of %d has %v: %v", n, l, o.Has(l...))
			}
		}
	}
	if o.Has(make([]int64, n+1)...) || o.Has(make([]int64, n-1)...) || o.Has() || !o.Has(make([]int64, n)...) {
		t.Errorf("the box of %d has points of other lengths", n)
	}
}

// P1: a nil octagon, and as what is handed in.
func TestNil(t *testing.T) {
	var o *octagon.Oct
	p := octagon.New(2)
	if o.Vars() != 0 || o.Empty() || o.Bound(0, false, 0, false) != 0 || o.Bound(-1, true, 9, false) != 0 || o.Has() || o.Has(0) || o.Fork() != nil {
		t.Error("a nil octagon tells something")
	}
	if o.Range(0) != noInts || o.Range(-1) != noInts {
		t.Error("a nil octagon has a range")
	}
	for _, i := range []int{0, -1, 9} {
		for _, c := range []int64{0, math.MaxInt64} {
			for _, e := range []api.Errno{o.Limit(i, false, 0, false, c), o.Set(i, ints(0, 1)), o.Set(i, ints(1, 0)), o.Set(i, noInts), o.Forget(i), o.Copy(i, 1, false, c), o.Copy(0, i, true, c), o.Shift(i, false, c)} {
				if e != api.ErrNil {
					t.Errorf("of a nil octagon: %d", e)
				}
			}
		}
	}
	for _, q := range []*octagon.Oct{nil, p, drained(2)} {
		if o.Join(q) != nil || o.Meet(q) != nil || o.Widen(q) != nil || o.Within(q) {
			t.Error("a nil octagon is put together")
		}
		if q.Join(nil) != nil || q.Meet(nil) != nil || q.Widen(nil) != nil || q.Within(nil) {
			t.Error("one is put together with a nil octagon")
		}
	}
	if told(p) != told(octagon.New(2)) {
		t.Error("one has changed")
	}
}

// unlike are octagons of two variables of all kinds.
func unlike() []*octagon.Oct {
	o := octagon.New(2)
	o.Limit(0, false, 1, true, -1)
	o.Set(1, ints(0, 5))
	return []*octagon.Oct{octagon.New(2), o, drained(2)}
}

// P10.2, P10.3: ErrRange, and nothing changes; of an Empty one too.
func TestWrongArguments(t *testing.T) {
	for _, o := range unlike() {
		was := told(o)
		for _, i := range []int{-1, 2, 8, math.MinInt, math.MaxInt} {
			if o.Bound(i, false, 0, true) != 0 || o.Bound(1, true, i, false) != 0 || o.Bound(i, false, i, false) != 0 || o.Range(i) != noInts {
				t.Errorf("%d is a variable of %s", i, was)
			}
			for _, e := range []api.Errno{
				o.Limit(i, false, 0, false, 0), o.Limit(0, true, i, false, -1), o.Limit(i, false, i, true, -1), o.Set(i, ints(0, 0)), o.Set(i, noInts), o.Set(i, ints(1, 0)),
				o.Forget(i), o.Copy(i, 0, false, 0), o.Copy(0, i, false, 0), o.Copy(i, i, false, 0), o.Shift(i, false, 0), o.Shift(i, true, 1),
			} {
				if e != api.ErrRange {
					t.Errorf("of %d the error is %d", i, e)
				}
			}
		}
		for _, c := range []int64{1<<35 + 1, -1<<35 - 1, math.MinInt64, math.MaxInt64} {
			if o.Limit(0, false, 1, false, c) != api.ErrRange || o.Limit(0, false, 0, true, c) != api.ErrRange {
				t.Errorf("Limit of %d has no error", c)
			}
		}
		for _, c := range []int64{edge + 1, -edge - 1, 1<<35 + 1, math.MinInt64, math.MaxInt64} {
			if o.Copy(0, 1, false, c) != api.ErrRange || o.Copy(1, 0, true, c) != api.ErrRange || o.Shift(0, false, c) != api.ErrRange || o.Shift(1, true, c) != api.ErrRange {
				t.Errorf("Copy or Shift of %d has no error", c)
			}
		}
		for i := range 2 {
			if o.Copy(i, i, false, 0) != api.ErrRange || o.Copy(i, i, true, 5) != api.ErrRange {
				t.Error("a variable is copied onto itself")
			}
		}
		for _, a := range []api.IntRange{{Lo: 1}, {Empty: true, Lo: 1}, {Empty: true, Hi: 1}, {Lo: api.MinInt - 1}, {Hi: api.MaxInt + 1}, {Lo: math.MinInt64, Hi: math.MaxInt64}, {Lo: math.MaxInt64, Hi: math.MinInt64}} {
			if o.Set(0, a) != api.ErrRange {
				t.Errorf("Set of %v has no error", a)
			}
		}
		if told(o) != was {
			t.Errorf("%s has become %s", was, told(o))
		}
	}
}

// P10.2: c at its ends: too great for anything to change, or so small that nothing is left.
func TestLimitAtItsEnds(t *testing.T) {
	for _, a := range sidesOf(2) {
		for _, b := range sidesOf(2) {
			o := octagon.New(2)
			for _, c := range []int64{1 << 35, 1<<35 - 1, 2*edge + 1, 2 * edge} {
				if limit(o, a, b, c) != api.OK || told(o) != told(octagon.New(2)) {
					t.Errorf("Limit %v %v %d: %s", a, b, c, told(o))
				}
			}
			for _, c := range []int64{-1 << 35, 1 - 1<<35, -2*edge - 1} {
				if p := o.Fork(); limit(p, a, b, c) != api.OK || !p.Empty() || told(p) != told(drained(2)) {
					t.Errorf("Limit %v %v %d: %s", a, b, c, told(p))
				}
			}
			if a == b.other() {
				continue
			}
			// Just the corner is left.
			if limit(o, a, b, -2*edge) != api.OK || o.Empty() || bound(o, a.other(), b.other()) != 2*edge {
				t.Errorf("Limit %v %v %d: %s", a, b, -2*edge, told(o))
			}
			if limit(o, a, b, -2*edge-1) != api.OK || !o.Empty() {
				t.Errorf("Limit %v %v past the corner: %s", a, b, told(o))
			}
		}
	}
}

// P10.1: of i and k alike, both negated or both not, twice i; of i and itself negated 0.
func TestBoundOfItself(t *testing.T) {
	o := octagon.New(2)
	o.Set(1, ints(-3, 8))
	if o.Bound(1, false, 1, false) != 16 || o.Bound(1, true, 1, true) != 6 || o.Bound(1, false, 1, true) != 0 || o.Bound(1, true, 1, false) != 0 {
		t.Error(told(o))
	}
	if o.Limit(1, false, 1, true, 0) != api.OK || o.Limit(1, true, 1, false, 7) != api.OK || o.Empty() || o.Range(1) != ints(-3, 8) {
		t.Error(told(o))
	}
	if o.Limit(1, true, 1, false, -1) != api.OK || !o.Empty() || o.Bound(1, false, 1, true) != -api.Far || o.Bound(0, false, 0, false) != -api.Far || o.Bound(0, false, 2, false) != 0 {
		t.Error(told(o))
	}
}

// Each call of Empty octagons.
func TestEmpty(t *testing.T) {
	for n := 1; n <= api.MaxInts; n++ {
		o := drained(n)
		if !o.Empty() || o.Vars() != n || o.Range(0) != noInts || o.Has(make([]int64, n)...) {
			t.Fatal(told(o))
		}
		was := told(o)
		calls := []api.Errno{o.Limit(0, false, 0, false, 1<<35), o.Limit(0, false, 0, true, -1), o.Set(0, ints(0, 9)), o.Set(0, noInts), o.Forget(0), o.Shift(0, true, 4), o.Shift(0, false, edge)}
		if n > 1 {
			calls = append(calls, o.Limit(0, false, 1, false, 5), o.Copy(0, 1, false, 3), o.Copy(1, 0, true, 0))
		}
		for i, e := range calls {
			if e != api.OK || told(o) != was {
				t.Fatalf("call %d: %d, %s", i, e, told(o))
			}
		}
		p := octagon.New(n)
		p.Set(0, ints(1, 2))
		if told(o.Join(p)) != told(p) || told(p.Join(o)) != told(p) || told(o.Widen(p)) != told(p) || told(p.Widen(o)) != told(p) {
			t.Error("Join or Widen of an Empty one is not the other one")
		}
		if !o.Meet(p).Empty() || !p.Meet(o).Empty() || !o.Meet(o).Empty() || !o.Join(o).Empty() || !o.Widen(o).Empty() || o.Meet(p).Vars() != n {
			t.Error("Meet of an Empty one is not Empty")
		}
		if !o.Within(p) || !o.Within(o) || p.Within(o) || !o.Fork().Empty() {
			t.Error("Within of an Empty one")
		}
		zero := octagon.New(n)
		for i := range n {
			zero.Set(i, ints(0, 0))
		}
		if zero.Within(o) || !o.Within(zero) || !zero.Within(p.Join(zero)) || zero.Within(p) {
			t.Error("Within of the point 0")
		}
	}
}

// Example 1.
func TestExample(t *testing.T) {
	o := octagon.New(2)
	o.Limit(0, false, 1, true, 0)
	o.Set(1, ints(0, 5))
	o.Set(0, ints(3, 9))
	if o.Range(0) != ints(3, 5) || o.Range(1) != ints(3, 5) {
		t.Error(told(o))
	}
}

// P10.6: bounds that are tight only by going over others.
func TestOverOthers(t *testing.T) {
	for n := 2; n <= api.MaxInts; n++ {
		o := octagon.New(n)
		for i := n - 1; i > 0; i-- {
			o.Limit(i-1, false, i, true, int64(i))
		}
		all := int64(n * (n - 1) / 2)
		if o.Bound(0, false, n-1, true) != all || o.Bound(n-1, true, 0, false) != all {
			t.Errorf("%d: %s", n, told(o))
		}
		o.Set(n-1, ints(-7, 10))
		if o.Range(0) != ints(api.MinInt, 10+all) || o.Bound(0, false, 0, false) != 2*(10+all) || o.Bound(0, true, 0, true) != 2*edge {
			t.Errorf("%d: %s", n, told(o))
		}
		o.Limit(0, true, n-1, false, -all-1)
		if !o.Empty() {
			t.Errorf("%d: what goes round is left: %s", n, told(o))
		}
	}
}

// P10.6: bound i and k is at most the half of twice i and twice k.
func TestByHalves(t *testing.T) {
	o := octagon.New(3)
	o.Set(0, ints(-1, 4))
	o.Set(2, ints(3, 7))
	if o.Bound(0, false, 2, false) != 11 || o.Bound(0, true, 2, false) != 8 || o.Bound(0, false, 2, true) != 1 || o.Bound(0, true, 2, true) != -2 {
		t.Error(told(o))
	}
	if o.Bound(0, false, 1, false) != edge+4 || o.Bound(1, true, 2, true) != edge-3 {
		t.Error(told(o))
	}
}

// P10.6: whole numbers: what is odd is one less, and what has only a half is none.
func TestOddSums(t *testing.T) {
	o := octagon.New(1)
	o.Limit(0, false, 0, false, 7)
	o.Limit(0, true, 0, true, 3)
	if o.Range(0) != ints(-1, 3) || o.Bound(0, false, 0, false) != 6 || o.Bound(0, true, 0, true) != 2 {
		t.Error(told(o))
	}
	o = octagon.New(1)
	o.Limit(0, false, 0, false, -7)
	if o.Range(0) != ints(api.MinInt, -4) || o.Bound(0, false, 0, false) != -8 {
		t.Error(told(o))
	}
	o.Limit(0, true, 0, true, 7)
	if !o.Empty() {
		t.Error(told(o))
	}
	// The sum is 1, and the difference 0.
	o = octagon.New(3)
	o.Limit(0, false, 1, false, 1)
	o.Limit(0, true, 1, true, -1)
	o.Limit(0, false, 1, true, 0)
	if o.Empty() || o.Range(0) != ints(api.MinInt, 0) || o.Range(1) != ints(1, api.MaxInt) || o.Bound(0, false, 1, true) != -1 {
		t.Error(told(o))
	}
	o.Limit(0, true, 1, false, 0)
	if !o.Empty() {
		t.Error(told(o))
	}
	// By halves of odd ones, of which each one goes over others.
	o = octagon.New(3)
	o.Limit(0, false, 1, false, 1)
	o.Limit(0, false, 1, true, 0)
	o.Limit(2, false, 1, false, 0)
	o.Limit(2, false, 1, true, 1)
	if o.Bound(0, false, 2, false) != 0 || o.Range(0).Hi != 0 || o.Range(2).Hi != 0 {
		t.Error(told(o))
	}
}

func TestSet(t *testing.T) {
	o := octagon.New(2)
	o.Limit(0, false, 1, true, 0)
	o.Limit(0, true, 1, false, 0)
	for _, c := range []struct{ a, want api.IntRange }{{ints(api.MinInt, api.MaxInt), ints(api.MinInt, api.MaxInt)}, {ints(-5, 9), ints(-5, 9)}, {ints(0, 20), ints(0, 9)}, {ints(-9, 9), ints(0, 9)}, {ints(4, 4), ints(4, 4)}, {ints(5, 6), noInts}} {
		if o.Set(1, c.a) != api.OK || o.Range(0) != c.want || o.Range(1) != c.want {
			t.Errorf("Set %v: %s", c.a, told(o))
		}
	}
	o = octagon.New(2)
	if o.Set(1, noInts) != api.OK || !o.Empty() {
		t.Error(told(o))
	}
	// Ends of ints are no ends of the box.
	o = octagon.New(1)
	if o.Set(0, ints(api.MinInt, api.MaxInt)) != api.OK || o.Bound(0, false, 0, false) != 2*api.MaxInt || o.Bound(0, true, 0, true) != -2*api.MinInt {
		t.Error(told(o))
	}
}

// between is one of n variables, of which i is from lo to hi; the others are any numbers of the box.
func between(t *testing.T, n, i int, lo, hi int64) *octagon.Oct {
	t.Helper()
	o := octagon.New(n)
	if o.Limit(i, false, i, false, 2*hi) != api.OK || o.Limit(i, true, i, true, -2*lo) != api.OK || o.Empty() {
		t.Fatalf("%d to %d: %s", lo, hi, told(o))
	}
	return o
}

// P10.1: of numbers past the ints, at an end of them, and over it, those are told that are ints; all else stays as it is.
func TestRangeOfWhatIsNoInt(t *testing.T) {
	for _, c := range []struct {
		lo, hi int64
		want   api.IntRange
	}{
		{api.MaxInt + 1, api.MaxInt + 1, noInts},
		{api.MaxInt + 1, edge, noInts},
		{api.MaxInt + 7, api.MaxInt + 9, noInts},
		{edge, edge, noInts},
		{api.MaxInt, api.MaxInt, ints(api.MaxInt, api.MaxInt)},
		{api.MaxInt, api.MaxInt + 1, ints(api.MaxInt, api.MaxInt)},
		{api.MaxInt, edge, ints(api.MaxInt, api.MaxInt)},
		{api.MaxInt - 1, api.MaxInt, ints(api.MaxInt-1, api.MaxInt)},
		{api.MaxInt - 7, api.MaxInt + 2, ints(api.MaxInt-7, api.MaxInt)},
		{0, edge, ints(0, api.MaxInt)},
		{api.MinInt, edge, ints(api.MinInt, api.MaxInt)},
		{-edge, edge, ints(api.MinInt, api.MaxInt)},
		{api.MinInt - 1, api.MaxInt + 1, ints(api.MinInt, api.MaxInt)},
		{api.MinInt, api.MaxInt, ints(api.MinInt, api.MaxInt)},
		{-edge, api.MaxInt, ints(api.MinInt, api.MaxInt)},
		{-edge, 0, ints(api.MinInt, 0)},
		{api.MinInt - 2, api.MinInt + 7, ints(api.MinInt, api.MinInt+7)},
		{api.MinInt, api.MinInt + 1, ints(api.MinInt, api.MinInt+1)},
		{-edge, api.MinInt, ints(api.MinInt, api.MinInt)},
		{api.MinInt - 1, api.MinInt, ints(api.MinInt, api.MinInt)},
		{api.MinInt, api.MinInt, ints(api.MinInt, api.MinInt)},
		{-edge, -edge, noInts},
		{api.MinInt - 9, api.MinInt - 7, noInts},
		{-edge, api.MinInt - 1, noInts},
		{api.MinInt - 1, api.MinInt - 1, noInts},
	} {
		for n := 1; n <= api.MaxInts; n++ {
			for i := range n {
				o := between(t, n, i, c.lo, c.hi)
				if got := o.Range(i); got != c.want {
					t.Errorf("%d of %d, from %d to %d: %v, not %v", i, n, c.lo, c.hi, got, c.want)
				}
				checkAlone(t, o, i, c.lo, c.hi)
			}
		}
	}
}

// checkAlone holds all but the range of i, which is from lo to hi, against what it was told.
func checkAlone(t *testing.T, o *octagon.Oct, i int, lo, hi int64) {
	t.Helper()
	if o.Empty() || o.Bound(i, false, i, false) != 2*hi || o.Bound(i, true, i, true) != -2*lo {
		t.Errorf("from %d to %d: %s", lo, hi, told(o))
	}
	l := make([]int64, o.Vars())
	for _, x := range []int64{lo - 1, lo, hi, hi + 1} {
		l[i] = x
		if o.Has(l...) != (x >= lo && x <= hi) {
			t.Errorf("from %d to %d: %v is in it: %v", lo, hi, l, o.Has(l...))
		}
	}
	for k := range l {
		if k != i && o.Range(k) != ints(api.MinInt, api.MaxInt) {
			t.Errorf("from %d to %d: %d is %v", lo, hi, k, o.Range(k))
		}
	}
}

// P10.1: bounds whose half is no whole number, about the ends of ints.
func TestRangeByHalves(t *testing.T) {
	for _, c := range []struct {
		c           int64
		above, upTo api.IntRange
	}{
		{4294967293, ints(api.MaxInt, api.MaxInt), ints(api.MinInt, api.MaxInt-1)},
		{4294967294, ints(api.MaxInt, api.MaxInt), ints(api.MinInt, api.MaxInt)},
		{4294967295, noInts, ints(api.MinInt, api.MaxInt)},
		{4294967296, noInts, ints(api.MinInt, api.MaxInt)},
		{-4294967295, ints(api.MinInt+1, api.MaxInt), ints(api.MinInt, api.MinInt)},
		{-4294967296, ints(api.MinInt, api.MaxInt), ints(api.MinInt, api.MinInt)},
		{-4294967297, ints(api.MinInt, api.MaxInt), noInts},
		{-4294967298, ints(api.MinInt, api.MaxInt), noInts},
	} {
		o, p := octagon.New(1), octagon.New(1)
		if o.Limit(0, true, 0, true, -c.c) != api.OK || o.Empty() || o.Range(0) != c.above {
			t.Errorf("twice it is at least %d: %s", c.c, told(o))
		}
		if p.Limit(0, false, 0, false, c.c) != api.OK || p.Empty() || p.Range(0) != c.upTo {
			t.Errorf("twice it is at most %d: %s", c.c, told(p))
		}
	}
}

// P10.1: the same of what leaves the ints, and comes back to them, by other calls.
func TestRangeThatLeavesTheInts(t *testing.T) {
	o := octagon.New(2)
	o.Set(0, ints(api.MaxInt-1, api.MaxInt))
	for _, c := range []struct {
		neg  bool
		by   int64
		want api.IntRange
	}{
		{false, 0, ints(api.MaxInt-1, api.MaxInt)}, {false, 1, ints(api.MaxInt, api.MaxInt)}, {false, 1, noInts}, {false, 1 << 31, noInts}, {false, -1 << 31, noInts},
		{false, -4, ints(api.MaxInt-3, api.MaxInt-2)}, {true, -4, ints(api.MinInt, api.MinInt)}, {false, -1, noInts}, {true, -4, ints(api.MaxInt-2, api.MaxInt-1)}, {false, -1 << 32, noInts},
	} {
		if o.Shift(0, c.neg, c.by) != api.OK || o.Range(0) != c.want || o.Empty() {
			t.Errorf("%v; want %v", o.Range(0), c.want)
		}
	}
	// A copy is an int or none by its own numbers, whatever the other one is.
	if o.Copy(1, 0, true, 0) != api.OK || o.Range(0) != noInts || o.Range(1) != noInts || o.Empty() {
		t.Error(told(o))
	}
	if o.Copy(1, 0, false, 1<<32) != api.OK || o.Range(0) != noInts || o.Range(1) != ints(api.MaxInt-2, api.MaxInt-1) {
		t.Error(told(o))
	}
	// Above one that is past the ints there is none; what joins both reaches over all between.
	p := octagon.New(2)
	p.Set(0, ints(api.MaxInt, api.MaxInt))
	if p.Limit(0, false, 1, true, -1) != api.OK || p.Range(0) != ints(api.MaxInt, api.MaxInt) || p.Range(1) != noInts || p.Empty() {
		t.Error(told(p))
	}
	q := between(t, 2, 1, -edge, api.MinInt-1)
	if q.Range(1) != noInts || p.Join(q).Range(1) != ints(api.MinInt, api.MaxInt) || !p.Meet(q).Empty() || p.Meet(q).Range(1) != noInts {
		t.Error(told(p.Join(q)))
	}
	// Set leaves just what is an int: nothing here.
	if q.Set(1, ints(api.MinInt, api.MaxInt)) != api.OK || !q.Empty() || q.Range(0) != noInts {
		t.Error(told(q))
	}
}

// P10.2: what was known of the others by what is forgotten stays.
func TestForget(t *testing.T) {
	o := octagon.New(3)
	o.Limit(0, false, 1, true, 2)
	o.Limit(1, false, 2, true, 3)
	o.Set(1, ints(0, 4))
	if o.Forget(1) != api.OK || o.Bound(0, false, 2, true) != 5 || o.Range(0) != ints(api.MinInt, 6) || o.Range(2) != ints(-3, api.MaxInt) {
		t.Error(told(o))
	}
	if o.Range(1) != ints(api.MinInt, api.MaxInt) || o.Bound(1, false, 1, false) != 2*edge || o.Bound(0, false, 1, true) != 6+edge || o.Bound(1, false, 2, true) != 3+edge || o.Bound(1, true, 1, false) != 0 {
		t.Error(told(o))
	}
	if !o.Has(6, -edge, edge) || !o.Has(6, edge, 1) || o.Has(6, 0, 0) || o.Has(6, edge+1, 1) {
		t.Error(told(o))
	}
}

func TestCopy(t *testing.T) {
	o := octagon.New(3)
	o.Set(0, ints(1, 4))
	o.Set(2, ints(7, 7))
	// What was known of it is forgotten, and others stay.
	if o.Copy(2, 0, false, 3) != api.OK || o.Range(2) != ints(4, 7) || o.Bound(2, false, 0, true) != 3 || o.Bound(2, true, 0, false) != -3 || o.Range(0) != ints(1, 4) {
		t.Error(told(o))
	}
	if o.Copy(1, 2, true, 10) != api.OK || o.Range(1) != ints(3, 6) || o.Bound(1, false, 0, false) != 7 || o.Bound(1, true, 0, true) != -7 {
		t.Error(told(o))
	}
	// Of points whose copy leaves the box nothing is left.
	p := octagon.New(2)
	if p.Copy(0, 1, false, edge) != api.OK || p.Range(1) != ints(api.MinInt, 0) || p.Bound(0, true, 0, true) != 0 || p.Bound(0, false, 0, false) != 2*edge {
		t.Error(told(p))
	}
	p.Limit(1, true, 1, true, -2)
	if !p.Empty() {
		t.Error(told(p))
	}
	p = octagon.New(2)
	p.Set(0, ints(1, 5))
	if p.Copy(1, 0, true, -edge) != api.OK || !p.Empty() {
		t.Error(told(p))
	}
}

func TestShift(t *testing.T) {
	o := octagon.New(2)
	o.Set(0, ints(1, 4))
	o.Limit(0, false, 1, true, 0)
	o.Limit(0, true, 1, false, 2)
	if o.Shift(0, false, 10) != api.OK || o.Range(0) != ints(11, 14) || o.Bound(0, false, 1, true) != 10 || o.Bound(0, true, 1, false) != -8 || o.Range(1) != ints(1, 6) {
		t.Error(told(o))
	}
	if o.Shift(0, true, 1) != api.OK || o.Range(0) != ints(-13, -10) || o.Bound(0, true, 1, true) != 9 || o.Bound(0, false, 1, false) != -7 || o.Range(1) != ints(1, 6) {
		t.Error(told(o))
	}
	// What leaves the box is left out, and what is known of the others by it.
	o = octagon.New(2)
	o.Copy(1, 0, false, 0)
	if o.Shift(0, false, 5) != api.OK || o.Bound(0, false, 0, false) != 2*edge || o.Bound(0, true, 0, true) != 2*(edge-5) || o.Bound(1, false, 1, false) != 2*(edge-5) || o.Bound(1, true, 1, true) != 2*edge {
		t.Error(told(o))
	}
	if o.Shift(0, true, -edge) != api.OK || o.Bound(0, false, 0, false) != -10 || o.Bound(1, false, 1, false) != -10 {
		t.Error(told(o))
	}
	o = octagon.New(1)
	o.Set(0, ints(1, 5))
	if o.Shift(0, false, edge) != api.OK || !o.Empty() {
		t.Error(told(o))
	}
	o = octagon.New(1)
	if o.Shift(0, false, edge) != api.OK || o.Shift(0, false, edge) != api.OK || !o.Has(edge) || o.Has(edge-1) || o.Shift(0, false, 1) != api.OK || !o.Empty() {
		t.Error(told(o))
	}
}

func TestUnlikeMany(t *testing.T) {
	for _, o := range []*octagon.Oct{octagon.New(2), drained(2)} {
		for _, p := range []*octagon.Oct{octagon.New(1), octagon.New(3), drained(1), drained(8)} {
			if o.Join(p) != nil || o.Meet(p) != nil || o.Widen(p) != nil || o.Within(p) || p.Within(o) || p.Join(o) != nil {
				t.Errorf("%d and %d variables", o.Vars(), p.Vars())
			}
		}
	}
}

// P10.4: Widen keeps the bounds that p keeps, and drops the others.
func TestWiden(t *testing.T) {
	o := octagon.New(2)
	o.Set(0, ints(0, 5))
	o.Copy(1, 0, false, 1)
	p := o.Fork()
	if told(o.Widen(p)) != told(o) {
		t.Error("nothing new, but widened")
	}
	p = octagon.New(2)
	p.Set(0, ints(0, 6))
	p.Copy(1, 0, false, 1)
	w := o.Widen(p)
	if w.Range(0) != ints(0, api.MaxInt) || w.Range(1) != ints(1, api.MaxInt) || w.Bound(0, false, 1, true) != -1 || w.Bound(0, true, 1, false) != 1 {
		t.Error(told(w))
	}
	// The difference stays, so that only one of both reaches the box's end.
	if w.Bound(1, false, 1, false) != 2*edge || w.Bound(0, false, 0, false) != 2*(edge-1) || w.Bound(0, true, 1, true) != -1 {
		t.Error(told(w))
	}
	// What is smaller changes nothing.
	q := o.Fork()
	q.Set(0, ints(2, 3))
	if told(o.Widen(q)) != told(o) {
		t.Error("less, but widened")
	}
}

// P4: of two that were one, what becomes of the one changes nothing of the other one.
func TestFork(t *testing.T) {
	changes := []func(o *octagon.Oct){
		func(o *octagon.Oct) { o.Limit(0, false, 1, false, 1) },
		func(o *octagon.Oct) { o.Set(0, ints(2, 2)) },
		func(o *octagon.Oct) { o.Set(0, noInts) },
		func(o *octagon.Oct) { o.Forget(0) },
		func(o *octagon.Oct) { o.Copy(0, 1, true, 2) },
		func(o *octagon.Oct) { o.Shift(1, true, 2) },
	}
	for i, change := range changes {
		start := octagon.New(2)
		start.Set(0, ints(0, 5))
		start.Limit(1, false, 0, true, 0)
		was := told(start)
		for _, p := range []*octagon.Oct{start.Fork(), start.Join(drained(2)), drained(2).Join(start), start.Widen(drained(2)), drained(2).Widen(start), start.Join(start), start.Meet(start), start.Widen(start)} {
			if told(p) != was {
				t.Fatalf("%s is not %s", told(p), was)
			}
			o := start.Fork()
			change(p)
			if told(start) != was || told(o) != was || told(p) == was {
				t.Errorf("change %d of the one: %s, %s, %s", i, told(start), told(o), told(p))
			}
		}
		left := start.Fork()
		change(start)
		if told(left) != was || told(start) == was {
			t.Errorf("change %d of the other one: %s", i, told(left))
		}
	}
}

// P3: what is handed to Has stays as it is.
func TestHasLeavesItsList(t *testing.T) {
	o := octagon.New(2)
	all := []int64{3, 4, 5, 6}
	if !o.Has(all[:2]...) || o.Has(all...) || all[0] != 3 || all[1] != 4 || all[2] != 5 || all[3] != 6 {
		t.Error(all)
	}
}
