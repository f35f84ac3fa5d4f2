package conv_test

import (
	"math"
	"math/big"
	"testing"

	"plumbline/api"
	"plumbline/conv"
	"plumbline/soft"
)

func TestExamples(t *testing.T) {
	if x, e := conv.Literal(api.Double, "0.1"); x != 0x3fb999999999999a || e != api.OK {
		t.Errorf("Literal of 0.1: %x, %d", x, e)
	}
	if x := conv.FromInt(api.Single, api.Near, 3); x != 0x40400000 {
		t.Errorf("FromInt of 3: %x", x)
	}
	if x := conv.Next(api.Single, 0); x != 1 || conv.Hex(api.Single, x) != "00000001" {
		t.Errorf("Next of 0: %x", x)
	}
}

// P3.1: each Single that is a number has the machine's Double.
func TestWiden(t *testing.T) {
	k := namedOf(api.Single)
	for _, a := range append(k.finite(), k.inf, k.inf|k.sign) {
		if got, want := conv.Widen(a), math.Float64bits(float64(math.Float32frombits(uint32(a)))); got != want {
			t.Errorf("Widen(%x) = %x; want %x", a, got, want)
		}
	}
	for _, bad := range k.noNumbers() {
		if got := conv.Widen(bad); got != 0x7ff8000000000000 {
			t.Errorf("Widen(%x) = %x", bad, got)
		}
	}
	for a, want := range map[uint64]uint64{0: 0, k.sign: 1 << 63, 1: 0x36a0000000000000, k.most: 0x47efffffe0000000, k.inf | k.sign: 0xfff0000000000000} {
		if got := conv.Widen(a); got != want {
			t.Errorf("Widen(%x) = %x; want %x", a, got, want)
		}
	}
}

// narrowed is a finite Double by a mode, found by the machine's Singles: the nearest one and its neighbours.
func narrowed(m api.Mode, a uint64) uint64 {
	x := math.Float64frombits(a)
	near := float32(x)
	low, high := near, near
	if float64(near) > x {
		low = math.Nextafter32(near, float32(math.Inf(-1)))
	} else if float64(near) < x {
		high = math.Nextafter32(near, float32(math.Inf(1)))
	}
	got := [4]float32{api.Near: near, api.Up: high, api.Down: low, api.Zero: low}[modeOf(m)]
	if modeOf(m) == api.Zero && math.Signbit(x) {
		got = high
	}
	return uint64(math.Float32bits(got)&^(1<<31)) | a>>63<<31
}

// aroundSingles are Doubles on Singles, right beside them, and between two of them.
func aroundSingles() []uint64 {
	k := namedOf(api.Single)
	var l []uint64
	for _, a := range k.finite() {
		x := conv.Widen(a)
		half := x + 1<<28
		l = append(l, x, x+1, x+1<<29-1, half-1, half, half+1)
		if a&^k.sign != 0 {
			l = append(l, x-1)
		}
	}
	return l
}

func TestNarrow(t *testing.T) {
	k := namedOf(api.Double)
	l := append(aroundSingles(), k.finite()...)
	// Halves of the least Single, and what lies beside them.
	l = append(l, 0x3690000000000000, 0x368fffffffffffff, 0x3690000000000001, 0x36a8000000000000, 0xb690000000000000)
	// The greatest Single, the half step above it, and what lies beside them.
	l = append(l, 0x47efffffe0000000, 0x47efffffefffffff, 0x47effffff0000000, 0x47effffff0000001, 0x47f0000000000000, 0xc7effffff0000000, 0xc7efffffefffffff)
	for _, a := range l {
		for _, m := range modes {
			if got, want := conv.Narrow(m, a), narrowed(m, a); got != want {
				t.Fatalf("Narrow(%d, %x) = %x; want %x", m, a, got, want)
			}
		}
	}
}

func TestNarrowOfWhatIsNotFinite(t *testing.T) {
	k := namedOf(api.Double)
	for _, m := range modes {
		for _, bad := range k.noNumbers() {
			if got := conv.Narrow(m, bad); got != 0x7fc00000 {
				t.Errorf("Narrow(%d, %x) = %x", m, bad, got)
			}
		}
		if up, down := conv.Narrow(m, k.inf), conv.Narrow(m, k.inf|k.sign); up != 0x7f800000 || down != 0xff800000 {
			t.Errorf("Narrow by %d of infinite ones: %x, %x", m, up, down)
		}
		if up, down := conv.Narrow(m, 0), conv.Narrow(m, k.sign); up != 0 || down != 0x80000000 {
			t.Errorf("Narrow by %d of zeros: %x, %x", m, up, down)
		}
	}
}

// ints are whole numbers at both ends of 64 and of 32 bits, about the powers of 2, and many others.
func ints() []int64 {
	l := []int64{0, 1, -1, 2, 3, -3, 10, 1e18, -1e18, math.MaxInt64, math.MinInt64}
	for at := range 63 {
		for _, n := range []int64{-3, -2, -1, 0, 1, 2, 3} {
			l = append(l, 1<<at+n, -1<<at+n)
		}
	}
	d := dice(521288629521288629)
	for range 20000 {
		l = append(l, int64(d.next())>>(d.next()%64))
	}
	return l
}

func TestFromInt(t *testing.T) {
	ways := [4]big.RoundingMode{api.Near: big.ToNearestEven, api.Up: big.ToPositiveInf, api.Down: big.ToNegativeInf, api.Zero: big.ToZero}
	for _, n := range ints() {
		for _, m := range modes {
			for _, f := range formats {
				x := new(big.Float).SetMode(ways[modeOf(m)])
				var want uint64
				if f == api.Single {
					y, _ := x.SetPrec(24).SetInt64(n).Float32()
					want = uint64(math.Float32bits(y))
				} else {
					y, _ := x.SetPrec(53).SetInt64(n).Float64()
					want = math.Float64bits(y)
				}
				if got := conv.FromInt(f, m, n); got != want {
					t.Fatalf("FromInt(%d, %d, %d) = %x; want %x", f, m, n, got, want)
				}
			}
		}
	}
}

func TestToInt(t *testing.T) {
	for _, f := range formats {
		k := namedOf(f)
		l := k.finite()
		for _, n := range ints() {
			x := conv.FromInt(f, api.Near, n)
			l = append(l, x, x+1, conv.Prev(f, x))
		}
		for _, a := range l {
			x := math.Float64frombits(a)
			if f == api.Single {
				x = float64(math.Float32frombits(uint32(a)))
			}
			var want int64
			fits := math.Trunc(x) >= -1<<31 && math.Trunc(x) <= 1<<31-1
			if fits {
				want = int64(math.Trunc(x))
			}
			if got, ok := conv.ToInt(f, a); got != want || ok != fits {
				t.Fatalf("ToInt(%d, %x) = %d, %v; want %d, %v", f, a, got, ok, want, fits)
			}
		}
	}
}

func TestToIntAtTheEdges(t *testing.T) {
	for _, c := range []struct {
		f  api.Format
		a  uint64
		n  int64
		ok bool
	}{
		{api.Double, 0, 0, true},
		{api.Double, 1 << 63, 0, true},
		{api.Double, 1, 0, true},
		{api.Double, 0xbfefffffffffffff, 0, true},
		{api.Double, 0x3fefffffffffffff, 0, true},
		{api.Double, 0xbff8000000000000, -1, true},
		{api.Double, 0x3fffffffffffffff, 1, true},
		{api.Double, 0x41dfffffffc00000, 1<<31 - 1, true},
		{api.Double, 0x41dfffffffffffff, 1<<31 - 1, true},
		{api.Double, 0x41e0000000000000, 0, false},
		{api.Double, 0xc1e0000000000000, -1 << 31, true},
		{api.Double, 0xc1e00000001fffff, -1 << 31, true},
		{api.Double, 0xc1e0000000200000, 0, false},
		{api.Single, 0x4effffff, 1<<31 - 128, true},
		{api.Single, 0x4f000000, 0, false},
		{api.Single, 0xcf000000, -1 << 31, true},
		{api.Single, 0xcf000001, 0, false},
	} {
		if n, ok := conv.ToInt(c.f, c.a); n != c.n || ok != c.ok {
			t.Errorf("ToInt(%d, %x) = %d, %v; want %d, %v", c.f, c.a, n, ok, c.n, c.ok)
		}
	}
	for _, f := range formats {
		k := namedOf(f)
		for _, bad := range append(k.noNumbers(), k.inf, k.inf|k.sign) {
			if n, ok := conv.ToInt(f, bad); n != 0 || ok {
				t.Errorf("ToInt(%d, %x) = %d, %v", f, bad, n, ok)
			}
		}
	}
}

// P3.4: there and back.
func TestThereAndBack(t *testing.T) {
	k := namedOf(api.Single)
	for _, a := range append(k.finite(), k.inf, k.inf|k.sign, k.nan) {
		for _, m := range modes {
			if got := conv.Narrow(m, conv.Widen(a)); got != a {
				t.Fatalf("Narrow(%d, Widen(%x)) = %x", m, a, got)
			}
		}
	}
	for _, n := range ints() {
		if n < api.MinInt || n > api.MaxInt {
			continue
		}
		for _, m := range modes {
			if got, ok := conv.ToInt(api.Double, conv.FromInt(api.Double, m, n)); got != n || !ok {
				t.Fatalf("ToInt of FromInt of %d: %d, %v", n, got, ok)
			}
		}
	}
}

// P3.3, P3.5 and P3.6: the neighbours of finite floats.
func TestNextAndPrev(t *testing.T) {
	for _, f := range formats {
		k := namedOf(f)
		for _, a := range k.finite() {
			next, prev := conv.Next(f, a), conv.Prev(f, a)
			if !soft.Finite(f, next) || !soft.Finite(f, prev) || next == k.sign || prev == k.sign {
				t.Fatalf("%d: of %x Next %x, Prev %x", f, a, next, prev)
			}
			if a != k.most && (k.place(next) != k.place(a)+1 || conv.Prev(f, next) != conv.Plain(f, a)) {
				t.Fatalf("Next(%d, %x) = %x", f, a, next)
			}
			if a != k.most|k.sign && (k.place(prev) != k.place(a)-1 || conv.Next(f, prev) != conv.Plain(f, a)) {
				t.Fatalf("Prev(%d, %x) = %x", f, a, prev)
			}
		}
	}
}

// place is where bits stand in the order of all values.
func (k named) place(bits uint64) int64 {
	size := int64(bits &^ k.sign)
	if bits&k.sign != 0 {
		return -size
	}
	return size
}

func TestNeighboursAtTheEdges(t *testing.T) {
	for _, f := range formats {
		k := namedOf(f)
		for _, c := range []struct{ a, next, prev uint64 }{
			{0, 1, 1 | k.sign},
			{k.sign, 1, 1 | k.sign},
			{1, 2, 0},
			{1 | k.sign, 0, 2 | k.sign},
			{k.low, k.low + 1, k.low - 1},
			{k.one | k.sign, k.one - 1 | k.sign, k.one + 1 | k.sign},
			{k.most, k.most, k.most - 1},
			{k.most | k.sign, k.most - 1 | k.sign, k.most | k.sign},
			{k.inf, k.nan, k.nan},
			{k.inf | k.sign, k.nan, k.nan},
		} {
			if next, prev := conv.Next(f, c.a), conv.Prev(f, c.a); next != c.next || prev != c.prev {
				t.Errorf("%d: of %x Next %x, Prev %x", f, c.a, next, prev)
			}
		}
		for _, bad := range k.noNumbers() {
			if next, prev := conv.Next(f, bad), conv.Prev(f, bad); next != k.nan || prev != k.nan {
				t.Errorf("%d: of %x Next %x, Prev %x", f, bad, next, prev)
			}
		}
	}
}

// P3.6, of all Singles of some small stretches: rising by Next comes by each one, in the order of soft.Compare.
func TestNextComesByAll(t *testing.T) {
	k := namedOf(api.Single)
	for _, from := range []uint64{3000 | k.sign, k.low + 3000 | k.sign, k.low - 3000, k.one - 3000, k.most - 3000} {
		a := from
		for range 6000 {
			next := conv.Next(api.Single, a)
			order, ok := soft.Compare(api.Single, a, next)
			if !ok || (order != -1) != (a == k.most) {
				t.Fatalf("Next(%x) = %x", a, next)
			}
			for _, x := range []uint64{a + 1, a - 1, 0} {
				low, below := soft.Compare(api.Single, a, x)
				high, above := soft.Compare(api.Single, x, next)
				if below && above && low < 0 && high < 0 {
					t.Fatalf("%x lies between %x and its Next %x", x, a, next)
				}
			}
			a = next
		}
	}
}

func TestPlain(t *testing.T) {
	for _, f := range formats {
		k := namedOf(f)
		if conv.Plain(f, k.sign) != 0 || conv.Plain(f, 0) != 0 {
			t.Errorf("%d: of zeros: %x, %x", f, conv.Plain(f, k.sign), conv.Plain(f, 0))
		}
		for _, a := range append(k.finite(), k.inf, k.inf|k.sign) {
			if got := conv.Plain(f, a); got != a && a != k.sign {
				t.Errorf("Plain(%d, %x) = %x", f, a, got)
			}
		}
		for _, bad := range k.noNumbers() {
			if got := conv.Plain(f, bad); got != k.nan {
				t.Errorf("Plain(%d, %x) = %x", f, bad, got)
			}
		}
	}
}
