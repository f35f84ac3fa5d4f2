package soft_test

import (
	"testing"

	"plumbline/api"
	"plumbline/soft"
)

// named are the floats of a format that the document's words speak of.
type named struct {
	f                                   api.Format
	sign, inf, nan, one, two, most, low uint64
}

func namedOf(f api.Format) named {
	if f == api.Single {
		return named{f, 0x80000000, 0x7f800000, 0x7fc00000, 0x3f800000, 0x40000000, 0x7f7fffff, 0x00800000}
	}
	return named{f, 1 << 63, 0x7ff0000000000000, 0x7ff8000000000000, 0x3ff0000000000000, 0x4000000000000000, 0x7fefffffffffffff, 0x0010000000000000}
}

// noNumbers are bits that are none.
func (k named) noNumbers() []uint64 {
	l := []uint64{k.nan, k.nan | k.sign, k.inf + 1, k.inf + 1 | k.sign, k.sign - 1}
	if k.f == api.Single {
		l = append(l, 1<<32, 1<<63, k.one|1<<32, k.inf|1<<40, ^uint64(0))
	}
	return l
}

func (k named) numbers() []uint64 {
	var l []uint64
	for _, x := range []uint64{0, 1, k.low - 1, k.low, k.one, k.two, k.most, k.inf} {
		l = append(l, x, x|k.sign)
	}
	return l
}

func TestExamples(t *testing.T) {
	const one, three = 0x3ff0000000000000, 0x4008000000000000
	if got := soft.Div(api.Double, api.Near, one, three); got != 0x3fd5555555555555 {
		t.Errorf("Near: %x", got)
	}
	if got := soft.Div(api.Double, api.Up, one, three); got != 0x3fd5555555555556 {
		t.Errorf("Up: %x", got)
	}
	if got := soft.Add(api.Double, api.Near, one, one); got != 0x4000000000000000 {
		t.Errorf("1 and 1: %x", got)
	}
}

func TestOfNoNumbers(t *testing.T) {
	for _, f := range formats {
		k := namedOf(f)
		for _, bad := range k.noNumbers() {
			for _, m := range modes {
				if got := soft.Sqrt(f, m, bad); got != k.nan {
					t.Errorf("Sqrt(%d, %d, %x) = %x", f, m, bad, got)
				}
				for _, x := range append(k.numbers(), k.noNumbers()...) {
					for _, r := range reckonings() {
						if got := r.do(f, m, bad, x); got != k.nan {
							t.Errorf("%s(%d, %d, %x, %x) = %x", r.name, f, m, bad, x, got)
						}
						if got := r.do(f, m, x, bad); got != k.nan {
							t.Errorf("%s(%d, %d, %x, %x) = %x", r.name, f, m, x, bad, got)
						}
					}
				}
			}
		}
	}
}

func TestOfInfiniteOnes(t *testing.T) {
	for _, f := range formats {
		k := namedOf(f)
		inf, less := k.inf, k.inf|k.sign
		minus := k.one | k.sign
		for _, c := range []struct{ add, sub, mul, div, a, b uint64 }{
			{inf, k.nan, inf, k.nan, inf, inf},
			{k.nan, inf, less, k.nan, inf, less},
			{k.nan, less, less, k.nan, less, inf},
			{less, k.nan, inf, k.nan, less, less},
			{inf, inf, inf, inf, inf, k.one},
			{inf, inf, less, less, inf, minus},
			{less, less, less, less, less, k.most},
			{less, less, inf, inf, less, 1 | k.sign},
			{inf, less, inf, 0, k.one, inf},
			{less, inf, less, k.sign, k.one, less},
			{inf, less, less, k.sign, minus, inf},
			{less, inf, inf, 0, minus, less},
			{inf, inf, k.nan, inf, inf, 0},
			{inf, inf, k.nan, less, inf, k.sign},
			{less, less, k.nan, less, less, 0},
			{inf, less, k.nan, 0, 0, inf},
			{inf, less, k.nan, k.sign, k.sign, inf},
			{less, inf, k.nan, 0, k.sign, less},
		} {
			for _, m := range modes {
				got := [4]uint64{soft.Add(f, m, c.a, c.b), soft.Sub(f, m, c.a, c.b), soft.Mul(f, m, c.a, c.b), soft.Div(f, m, c.a, c.b)}
				if want := [4]uint64{c.add, c.sub, c.mul, c.div}; got != want {
					t.Errorf("%d %d of %x and %x: %x; want %x", f, m, c.a, c.b, got, want)
				}
			}
		}
	}
}

func TestDivByZero(t *testing.T) {
	for _, f := range formats {
		k := namedOf(f)
		for _, m := range modes {
			for _, x := range []uint64{1, k.low, k.one, k.most} {
				for _, c := range []struct{ a, b, want uint64 }{
					{x, 0, k.inf}, {x | k.sign, 0, k.inf | k.sign}, {x, k.sign, k.inf | k.sign}, {x | k.sign, k.sign, k.inf},
				} {
					if got := soft.Div(f, m, c.a, c.b); got != c.want {
						t.Errorf("Div(%d, %d, %x, %x) = %x", f, m, c.a, c.b, got)
					}
				}
			}
			for _, a := range []uint64{0, k.sign} {
				for _, b := range []uint64{0, k.sign} {
					if got := soft.Div(f, m, a, b); got != k.nan {
						t.Errorf("Div(%d, %d, %x, %x) = %x", f, m, a, b, got)
					}
				}
			}
		}
	}
}

func TestRootsWithoutReckoning(t *testing.T) {
	for _, f := range formats {
		k := namedOf(f)
		for _, m := range modes {
			for _, x := range []uint64{0, k.sign, k.inf} {
				if got := soft.Sqrt(f, m, x); got != x {
					t.Errorf("Sqrt(%d, %d, %x) = %x", f, m, x, got)
				}
			}
			for _, x := range []uint64{1, k.low, k.one, k.most, k.inf} {
				if got := soft.Sqrt(f, m, x|k.sign); got != k.nan {
					t.Errorf("Sqrt(%d, %d, %x) = %x", f, m, x|k.sign, got)
				}
			}
		}
	}
}

func TestTrueResultsOfZero(t *testing.T) {
	for _, f := range formats {
		k := namedOf(f)
		for _, m := range modes {
			gone := uint64(0)
			if m == api.Down {
				gone = k.sign
			}
			for _, x := range []uint64{1, k.low, k.one, k.most} {
				minus := x | k.sign
				for i, c := range [][2]uint64{
					{soft.Add(f, m, x, minus), gone},
					{soft.Add(f, m, minus, x), gone},
					{soft.Sub(f, m, x, x), gone},
					{soft.Sub(f, m, minus, minus), gone},
					{soft.Mul(f, m, x, 0), 0},
					{soft.Mul(f, m, k.sign, x), k.sign},
					{soft.Mul(f, m, minus, k.sign), 0},
					{soft.Div(f, m, 0, x), 0},
					{soft.Div(f, m, 0, minus), k.sign},
					{soft.Div(f, m, k.sign, minus), 0},
					{soft.Add(f, m, x, k.sign), x},
					{soft.Add(f, m, 0, minus), minus},
					{soft.Sub(f, m, 0, x), minus},
				} {
					if c[0] != c[1] {
						t.Errorf("%d: %d %d of %x: %x; want %x", i, f, m, x, c[0], c[1])
					}
				}
			}
			for i, c := range [][2]uint64{
				{soft.Add(f, m, 0, 0), 0},
				{soft.Add(f, m, k.sign, k.sign), k.sign},
				{soft.Add(f, m, 0, k.sign), gone},
				{soft.Add(f, m, k.sign, 0), gone},
				{soft.Sub(f, m, 0, 0), gone},
				{soft.Sub(f, m, k.sign, k.sign), gone},
				{soft.Sub(f, m, 0, k.sign), 0},
				{soft.Sub(f, m, k.sign, 0), k.sign},
				{soft.Mul(f, m, 0, 0), 0},
				{soft.Mul(f, m, 0, k.sign), k.sign},
			} {
				if c[0] != c[1] {
					t.Errorf("%d: %d %d of zeros: %x; want %x", i, f, m, c[0], c[1])
				}
			}
		}
	}
}

// What is too great, and too small, by each mode and with both signs.
func TestTooGreatAndTooSmall(t *testing.T) {
	for _, f := range formats {
		k := namedOf(f)
		half := k.one - k.low
		for _, m := range modes {
			great := [4][2]uint64{{k.inf, k.inf}, {k.inf, k.most}, {k.most, k.inf}, {k.most, k.most}}[modeOf(m)]
			small := [4][2]uint64{{0, 0}, {1, 0}, {0, 1}, {0, 0}}[modeOf(m)]
			for i, c := range [][2]uint64{
				{soft.Mul(f, m, k.most, k.two), great[0]},
				{soft.Mul(f, m, k.most|k.sign, k.two), great[1] | k.sign},
				{soft.Add(f, m, k.most, k.most), great[0]},
				{soft.Sub(f, m, k.most|k.sign, k.most), great[1] | k.sign},
				{soft.Div(f, m, k.most, 1), great[0]},
				{soft.Mul(f, m, 1, half), small[0]},
				{soft.Mul(f, m, 1|k.sign, half), small[1] | k.sign},
				{soft.Mul(f, m, 1, 1), small[0]},
				{soft.Div(f, m, 1, k.most), small[0]},
				{soft.Div(f, m, 1, k.most|k.sign), small[1] | k.sign},
			} {
				if c[0] != c[1] {
					t.Errorf("%d: %d %d: %x; want %x", i, f, m, c[0], c[1])
				}
			}
		}
	}
}

func TestNegAndAbs(t *testing.T) {
	for _, f := range formats {
		k := namedOf(f)
		for _, x := range k.numbers() {
			if got := soft.Neg(f, x); got != x^k.sign {
				t.Errorf("Neg(%d, %x) = %x", f, x, got)
			}
			if got := soft.Abs(f, x); got != x&^k.sign {
				t.Errorf("Abs(%d, %x) = %x", f, x, got)
			}
		}
		for _, x := range k.noNumbers() {
			if soft.Neg(f, x) != k.nan || soft.Abs(f, x) != k.nan {
				t.Errorf("%d %x: %x %x", f, x, soft.Neg(f, x), soft.Abs(f, x))
			}
		}
	}
}

func TestCompare(t *testing.T) {
	for _, f := range formats {
		k := namedOf(f)
		rising := []uint64{k.inf, k.most, k.two, k.one, k.low, k.low - 1, 1}
		for i := range rising {
			rising[i] |= k.sign
		}
		rising = append(rising, 0, 1, k.low-1, k.low, k.one, k.two, k.most, k.inf)
		for i, a := range rising {
			for j, b := range rising {
				want := 0
				if i < j {
					want = -1
				} else if i > j {
					want = 1
				}
				if got, ok := soft.Compare(f, a, b); got != want || !ok {
					t.Errorf("Compare(%d, %x, %x) = %d, %v", f, a, b, got, ok)
				}
			}
			if got, ok := soft.Compare(f, a, k.sign); !ok || (got == 0) != (a == 0) {
				t.Errorf("Compare(%d, %x, -0) = %d, %v", f, a, got, ok)
			}
		}
		for _, bad := range k.noNumbers() {
			for _, x := range append(k.numbers(), k.noNumbers()...) {
				if got, ok := soft.Compare(f, bad, x); got != 0 || ok {
					t.Errorf("Compare(%d, %x, %x) = %d, %v", f, bad, x, got, ok)
				}
				if got, ok := soft.Compare(f, x, bad); got != 0 || ok {
					t.Errorf("Compare(%d, %x, %x) = %d, %v", f, x, bad, got, ok)
				}
			}
		}
	}
}

func TestClassAndFinite(t *testing.T) {
	for _, f := range formats {
		k := namedOf(f)
		for _, c := range []struct {
			x      uint64
			class  api.Class
			finite bool
		}{
			{0, api.IsZero, true},
			{1, api.IsSub, true},
			{k.low - 1, api.IsSub, true},
			{k.low, api.IsNormal, true},
			{k.one, api.IsNormal, true},
			{k.most, api.IsNormal, true},
			{k.inf, api.IsInf, false},
			{k.inf + 1, api.IsNan, false},
			{k.nan, api.IsNan, false},
			{k.sign - 1, api.IsNan, false},
		} {
			for _, x := range []uint64{c.x, c.x | k.sign} {
				if class := soft.Class(f, x); class != c.class {
					t.Errorf("Class(%d, %x) = %d", f, x, class)
				}
				if finite := soft.Finite(f, x); finite != c.finite {
					t.Errorf("Finite(%d, %x) = %v", f, x, finite)
				}
			}
		}
	}
	for _, x := range []uint64{1 << 32, 1 << 63, 0x3ff0000000000000, 0x100000000 | 0x7fc00000, ^uint64(0)} {
		if soft.Class(api.Single, x) != api.NoClass || soft.Finite(api.Single, x) {
			t.Errorf("%x is none of a Single", x)
		}
	}
}

func TestMostAndNan(t *testing.T) {
	for _, f := range formats {
		k := namedOf(f)
		if soft.Most(f) != k.most || soft.Nan(f) != k.nan {
			t.Errorf("%d: %x %x", f, soft.Most(f), soft.Nan(f))
		}
	}
}

// P2.4, P2.5 and P2.6, of all kinds of floats.
func TestWhatFollows(t *testing.T) {
	for _, f := range []api.Format{api.Double, api.Single} {
		l := append(edges(f), floats(f, 123456789123456789, 150)...)
		for _, a := range l {
			checkOrder(t, f, soft.Sqrt(f, api.Near, a), soft.Sqrt(f, api.Up, a), soft.Sqrt(f, api.Down, a))
			for _, b := range l {
				for _, r := range reckonings() {
					checkOrder(t, f, r.do(f, api.Near, a, b), r.do(f, api.Up, a, b), r.do(f, api.Down, a, b))
				}
				checkTurned(t, f, a, b)
			}
		}
	}
}

func checkOrder(t *testing.T, f api.Format, near, up, down uint64) {
	t.Helper()
	if low, ok := soft.Compare(f, down, near); ok {
		high, _ := soft.Compare(f, near, up)
		same, _ := soft.Compare(f, down, up)
		s := shapeOf(f)
		if low > 0 || high > 0 || same != 0 && s.place(up)-s.place(down) != 1 {
			t.Fatalf("%d: Down %x, Near %x, Up %x", f, down, near, up)
		}
	} else if near != soft.Nan(f) || up != near || down != near {
		t.Fatalf("%d: Down %x, Near %x, Up %x", f, down, near, up)
	}
}

func checkTurned(t *testing.T, f api.Format, a, b uint64) {
	t.Helper()
	less, other := soft.Neg(f, a), soft.Neg(f, b)
	for _, m := range modes {
		if soft.Add(f, m, a, b) != soft.Add(f, m, b, a) || soft.Mul(f, m, a, b) != soft.Mul(f, m, b, a) {
			t.Fatalf("%d %d: the order of %x and %x", f, m, a, b)
		}
	}
	for i, c := range [][2]uint64{
		{soft.Add(f, api.Up, a, b), soft.Add(f, api.Down, less, other)},
		{soft.Sub(f, api.Up, a, b), soft.Sub(f, api.Down, less, other)},
		{soft.Mul(f, api.Up, a, b), soft.Mul(f, api.Down, less, b)},
		{soft.Div(f, api.Up, a, b), soft.Div(f, api.Down, less, b)},
	} {
		if c[0] != soft.Neg(f, c[1]) {
			t.Fatalf("%d: %d of %x and %x: Up %x, Down of the Negs %x", i, f, a, b, c[0], c[1])
		}
	}
}
