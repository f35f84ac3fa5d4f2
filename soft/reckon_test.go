package soft_test

import (
	"math"
	"math/big"
	"testing"

	"plumbline/api"
	"plumbline/soft"
)

var formats = []api.Format{api.Double, api.Single, -1, 2, 1 << 40}

var modes = []api.Mode{api.Near, api.Up, api.Down, api.Zero, -1, 4, 1 << 40}

// a reckoning of two, and what its true result is of finite ones: none where the document names the answer.
type reckoning struct {
	name  string
	do    func(f api.Format, m api.Mode, a, b uint64) uint64
	truly func(x, y *big.Rat) *big.Rat
}

func reckonings() []reckoning {
	return []reckoning{
		{"Add", soft.Add, func(x, y *big.Rat) *big.Rat { return new(big.Rat).Add(x, y) }},
		{"Sub", soft.Sub, func(x, y *big.Rat) *big.Rat { return new(big.Rat).Sub(x, y) }},
		{"Mul", soft.Mul, func(x, y *big.Rat) *big.Rat { return new(big.Rat).Mul(x, y) }},
		{"Div", soft.Div, func(x, y *big.Rat) *big.Rat {
			if y.Sign() == 0 {
				return new(big.Rat)
			}
			return new(big.Rat).Quo(x, y)
		}},
	}
}

func checkTwo(t *testing.T, r reckoning, f api.Format, a, b uint64) {
	t.Helper()
	if !soft.Finite(f, a) || !soft.Finite(f, b) {
		return
	}
	s := shapeOf(f)
	v := r.truly(s.value(a), s.value(b))
	if v.Sign() == 0 {
		return
	}
	all := s.rounded(truthOf(v))
	for _, m := range modes {
		if got := r.do(f, m, a, b); got != all[modeOf(m)] {
			t.Fatalf("%s(%d, %d, %x, %x) = %x; want %x", r.name, f, m, a, b, got, all[modeOf(m)])
		}
	}
}

// E1 and P2.1: the true result, rounded, at the edges.
func TestTrueResultsAtTheEdges(t *testing.T) {
	for _, f := range []api.Format{api.Double, api.Single} {
		for _, r := range reckonings() {
			for _, a := range edges(f) {
				for _, b := range edges(f) {
					checkTwo(t, r, f, a, b)
				}
			}
		}
	}
}

// E1 and P2.1: the same of many floats.
func TestTrueResults(t *testing.T) {
	for _, f := range []api.Format{api.Double, api.Single} {
		l := floats(f, 88172645463325252, 1501)
		for _, r := range reckonings() {
			for i := 1; i < len(l); i++ {
				checkTwo(t, r, f, l[i-1], l[i])
			}
		}
	}
}

// Sums of floats that lie far apart, and differences that nearly go out.
func TestSumsFarApart(t *testing.T) {
	for _, f := range []api.Format{api.Double, api.Single} {
		s := shapeOf(f)
		one := uint64(1)<<(s.width-2) - 1<<s.places
		for _, r := range reckonings()[:2] {
			for apart := range 80 {
				for _, fraction := range []uint64{0, 1, 1 << (s.places - 1), 1<<s.places - 1} {
					low := one - uint64(apart)<<s.places
					for _, high := range []uint64{one, one + 1, one + 1<<s.places - 1} {
						checkTwo(t, r, f, high, low+fraction)
						checkTwo(t, r, f, low+fraction, high|1<<(s.width-1))
					}
				}
			}
		}
	}
}

func TestTrueRoots(t *testing.T) {
	for _, f := range []api.Format{api.Double, api.Single} {
		s := shapeOf(f)
		for _, a := range append(edges(f), floats(f, 362436069362436069, 1500)...) {
			a &^= 1 << (s.width - 1)
			if !soft.Finite(f, a) || soft.Class(f, a) == api.IsZero {
				continue
			}
			all := s.rounded(rootOf(s.value(a)))
			for _, m := range modes {
				if got := soft.Sqrt(f, m, a); got != all[modeOf(m)] {
					t.Fatalf("Sqrt(%d, %d, %x) = %x; want %x", f, m, a, got, all[modeOf(m)])
				}
			}
		}
	}
}

// Exact roots have no rest in any mode.
func TestRootsOfSquares(t *testing.T) {
	for n := range 200 {
		root, square := math.Float64bits(float64(n)), math.Float64bits(float64(n*n))
		for _, m := range modes {
			if got := soft.Sqrt(api.Double, m, square); got != root {
				t.Errorf("Sqrt of %d: %x", n*n, got)
			}
		}
	}
}

func bits64(x float64) uint64 {
	if x != x {
		return 0x7ff8000000000000
	}
	return math.Float64bits(x)
}

func bits32(x float32) uint64 {
	if x != x {
		return 0x7fc00000
	}
	return uint64(math.Float32bits(x))
}

// What the machine's own floats tell, of all kinds of floats.
func TestAsTheMachine(t *testing.T) {
	l := append(edges(api.Double), floats(api.Double, 521288629521288629, 1200)...)
	for _, a := range l {
		x := math.Float64frombits(a)
		if got := soft.Sqrt(api.Double, api.Near, a); got != bits64(math.Sqrt(x)) {
			t.Fatalf("Sqrt(%x) = %x", a, got)
		}
		for _, b := range l {
			y := math.Float64frombits(b)
			for i, want := range [4]float64{x + y, x - y, x * y, x / y} {
				if got := reckonings()[i].do(api.Double, api.Near, a, b); got != bits64(want) {
					t.Fatalf("%s(%x, %x) = %x; want %x", reckonings()[i].name, a, b, got, bits64(want))
				}
			}
		}
	}
}

func TestAsTheMachineOfSingles(t *testing.T) {
	l := append(edges(api.Single), floats(api.Single, 916191069916191069, 1200)...)
	for _, a := range l {
		if a>>32 != 0 {
			continue
		}
		x := math.Float32frombits(uint32(a))
		if got := soft.Sqrt(api.Single, api.Near, a); got != bits32(float32(math.Sqrt(float64(x)))) {
			t.Fatalf("Sqrt(%x) = %x", a, got)
		}
		for _, b := range l {
			if b>>32 != 0 {
				continue
			}
			y := math.Float32frombits(uint32(b))
			for i, want := range [4]float32{x + y, x - y, x * y, x / y} {
				if got := reckonings()[i].do(api.Single, api.Near, a, b); got != bits32(want) {
					t.Fatalf("%s(%x, %x) = %x; want %x", reckonings()[i].name, a, b, got, bits32(want))
				}
			}
		}
	}
}
