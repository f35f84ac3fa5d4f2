package wide_test

import (
	"math/big"
	"testing"

	"plumbline/api"
	"plumbline/wide"
)

const top = 1<<64 - 1

// edges are words at which carries, moves and roots turn.
var edges = []uint64{0, 1, 2, 3, 4, 5, 9, 10, 15, 16, 1<<31 - 1, 1 << 31, 1<<32 - 1, 1 << 32, 1<<32 + 1, 1<<52 - 1, 1 << 52, 1 << 53, 1<<62 - 1, 1 << 62, 1<<63 - 1, 1 << 63, 1<<63 + 1, top - 1, top, 0x0123456789abcdef, 0xfedcba9876543210, 0x5555555555555555}

func numbers() []api.U128 {
	var l []api.U128
	for _, hi := range edges {
		for _, lo := range edges {
			l = append(l, api.U128{Hi: hi, Lo: lo})
		}
	}
	return l
}

func bigOf(a api.U128) *big.Int {
	n := new(big.Int).SetUint64(a.Hi)
	return n.Add(n.Lsh(n, 64), new(big.Int).SetUint64(a.Lo))
}

// wrapped is what is left of n below 2^128.
func wrapped(n *big.Int) api.U128 {
	n = new(big.Int).Mod(n, new(big.Int).Lsh(big.NewInt(1), 128))
	lo := new(big.Int).And(n, new(big.Int).SetUint64(top))
	return api.U128{Hi: new(big.Int).Rsh(n, 64).Uint64(), Lo: lo.Uint64()}
}

func TestAddGoesRound(t *testing.T) {
	for _, c := range []struct {
		a, b, sum api.U128
		round     bool
	}{
		{api.U128{}, api.U128{}, api.U128{}, false},
		{api.U128{Lo: 2}, api.U128{Lo: 3}, api.U128{Lo: 5}, false},
		{api.U128{Lo: top}, api.U128{Lo: 1}, api.U128{Hi: 1}, false},
		{api.U128{Hi: top, Lo: top}, api.U128{}, api.U128{Hi: top, Lo: top}, false},
		{api.U128{Hi: top, Lo: top}, api.U128{Lo: 1}, api.U128{}, true},
		{api.U128{Hi: top, Lo: top}, api.U128{Hi: top, Lo: top}, api.U128{Hi: top, Lo: top - 1}, true},
		{api.U128{Hi: 1 << 63}, api.U128{Hi: 1 << 63}, api.U128{}, true},
	} {
		if sum, round := wide.Add(c.a, c.b); sum != c.sum || round != c.round {
			t.Errorf("Add(%v, %v) = %v, %v; want %v, %v", c.a, c.b, sum, round, c.sum, c.round)
		}
	}
}

func TestSubGoesRound(t *testing.T) {
	for _, c := range []struct {
		a, b, rest api.U128
		round      bool
	}{
		{api.U128{Lo: 5}, api.U128{Lo: 3}, api.U128{Lo: 2}, false},
		{api.U128{Hi: 1}, api.U128{Lo: 1}, api.U128{Lo: top}, false},
		{api.U128{Hi: 7, Lo: 7}, api.U128{Hi: 7, Lo: 7}, api.U128{}, false},
		{api.U128{}, api.U128{Lo: 1}, api.U128{Hi: top, Lo: top}, true},
		{api.U128{Hi: 1}, api.U128{Hi: 1, Lo: 1}, api.U128{Hi: top, Lo: top}, true},
		{api.U128{}, api.U128{Hi: top, Lo: top}, api.U128{Lo: 1}, true},
	} {
		if rest, round := wide.Sub(c.a, c.b); rest != c.rest || round != c.round {
			t.Errorf("Sub(%v, %v) = %v, %v; want %v, %v", c.a, c.b, rest, round, c.rest, c.round)
		}
	}
}

// P1.1 and P1.3, against whole numbers of any size.
func TestSumsAndDifferences(t *testing.T) {
	l := numbers()
	for _, a := range l {
		for _, b := range l {
			x, y := bigOf(a), bigOf(b)
			full := new(big.Int).Add(x, y)
			sum, round := wide.Add(a, b)
			if sum != wrapped(full) || round != (full.BitLen() > 128) {
				t.Fatalf("Add(%v, %v) = %v, %v", a, b, sum, round)
			}
			if back, under := wide.Sub(sum, b); back != a || under != round {
				t.Fatalf("Sub(Add(%v, %v)) = %v, %v", a, b, back, under)
			}
			rest, round := wide.Sub(a, b)
			if rest != wrapped(new(big.Int).Sub(x, y)) || round != (x.Cmp(y) < 0) {
				t.Fatalf("Sub(%v, %v) = %v, %v", a, b, rest, round)
			}
			if got := wide.Compare(a, b); got != x.Cmp(y) {
				t.Fatalf("Compare(%v, %v) = %d", a, b, got)
			}
		}
	}
}

func TestMul(t *testing.T) {
	if p := wide.Mul(top, top); p != (api.U128{Hi: top - 1, Lo: 1}) {
		t.Error(p)
	}
	for _, a := range edges {
		for _, b := range edges {
			want := new(big.Int).Mul(new(big.Int).SetUint64(a), new(big.Int).SetUint64(b))
			if p := wide.Mul(a, b); bigOf(p).Cmp(want) != 0 {
				t.Fatalf("Mul(%d, %d) = %v", a, b, p)
			}
		}
	}
}

func TestMoves(t *testing.T) {
	moves := []int{-1 << 63, -129, -64, -1, 128, 129, 191, 192, 1000, 1<<63 - 1}
	for n := 0; n < 128; n++ {
		moves = append(moves, n)
	}
	for _, a := range numbers() {
		for _, n := range moves {
			by := uint(min(max(n, 0), 128))
			up := new(big.Int).Lsh(bigOf(a), by)
			if got := wide.Shl(a, n); got != wrapped(up) {
				t.Fatalf("Shl(%v, %d) = %v", a, n, got)
			}
			down := new(big.Int).Rsh(bigOf(a), by)
			loses := new(big.Int).Lsh(down, by).Cmp(bigOf(a)) != 0
			if got, lost := wide.Shr(a, n); got != wrapped(down) || lost != loses {
				t.Fatalf("Shr(%v, %d) = %v, %v", a, n, got, lost)
			}
		}
	}
}

func TestMovesAtTheEdges(t *testing.T) {
	full := api.U128{Hi: top, Lo: top}
	for _, c := range []struct {
		n        int
		up, down api.U128
		lost     bool
	}{
		{-1, full, full, false},
		{0, full, full, false},
		{64, api.U128{Hi: top}, api.U128{Lo: top}, true},
		{127, api.U128{Hi: 1 << 63}, api.U128{Lo: 1}, true},
		{128, api.U128{}, api.U128{}, true},
		{1 << 40, api.U128{}, api.U128{}, true},
	} {
		if up := wide.Shl(full, c.n); up != c.up {
			t.Errorf("Shl by %d: %v", c.n, up)
		}
		if down, lost := wide.Shr(full, c.n); down != c.down || lost != c.lost {
			t.Errorf("Shr by %d: %v, %v", c.n, down, lost)
		}
	}
	if down, lost := wide.Shr(api.U128{}, 200); down != (api.U128{}) || lost {
		t.Error("0 has nothing to lose", down, lost)
	}
	if down, lost := wide.Shr(api.U128{Lo: 5}, 1); down != (api.U128{Lo: 2}) || !lost {
		t.Error("Shr(5, 1)", down, lost)
	}
}

// P1.4.
func TestMovedThereAndBack(t *testing.T) {
	for _, a := range numbers() {
		for n := -2; n < 130; n++ {
			if wide.Len(a)+n <= 128 {
				if back, lost := wide.Shr(wide.Shl(a, n), n); back != a || lost {
					t.Fatalf("%v up and down by %d: %v, %v", a, n, back, lost)
				}
			}
			if down, lost := wide.Shr(a, n); (wide.Shl(down, n) == a) == lost {
				t.Fatalf("%v down and up by %d: %v", a, n, lost)
			}
		}
	}
}

func TestLen(t *testing.T) {
	for _, a := range numbers() {
		if n := wide.Len(a); n != bigOf(a).BitLen() {
			t.Fatalf("Len(%v) = %d", a, n)
		}
	}
	if wide.Len(api.U128{}) != 0 || wide.Len(api.U128{Lo: top}) != 64 || wide.Len(api.U128{Hi: 1}) != 65 || wide.Len(api.U128{Hi: top}) != 128 {
		t.Error("Len at its edges")
	}
}

// P1.2 and P1.3: the quotient times b, and the rest.
func TestDiv(t *testing.T) {
	for _, a := range numbers() {
		for _, b := range edges {
			q, r := wide.Div(a, b)
			if b == 0 {
				if q != (api.U128{}) || r != 0 {
					t.Fatalf("Div(%v, 0) = %v, %d", a, q, r)
				}
				continue
			}
			back := new(big.Int).Mul(bigOf(q), new(big.Int).SetUint64(b))
			back.Add(back, new(big.Int).SetUint64(r))
			if r >= b || back.Cmp(bigOf(a)) != 0 {
				t.Fatalf("Div(%v, %d) = %v, %d", a, b, q, r)
			}
		}
	}
}

func TestSqrtAtTheEdges(t *testing.T) {
	for _, c := range []struct {
		a    api.U128
		root uint64
		left api.U128
	}{
		{api.U128{}, 0, api.U128{}},
		{api.U128{Lo: 1}, 1, api.U128{}},
		{api.U128{Lo: 3}, 1, api.U128{Lo: 2}},
		{api.U128{Lo: 10}, 3, api.U128{Lo: 1}},
		{api.U128{Hi: top, Lo: top}, top, api.U128{Hi: 1, Lo: top - 1}},
	} {
		if root, left := wide.Sqrt(c.a); root != c.root || left != c.left {
			t.Errorf("Sqrt(%v) = %d, %v", c.a, root, left)
		}
	}
}

func TestSqrt(t *testing.T) {
	check := func(a api.U128) {
		root, left := wide.Sqrt(a)
		want := new(big.Int).Sqrt(bigOf(a))
		rest := new(big.Int).Sub(bigOf(a), new(big.Int).Mul(want, want))
		if want.Cmp(new(big.Int).SetUint64(root)) != 0 || rest.Cmp(bigOf(left)) != 0 {
			t.Fatalf("Sqrt(%v) = %d, %v", a, root, left)
		}
	}
	for _, a := range numbers() {
		check(a)
	}
	for _, r := range edges {
		square := wide.Mul(r, r)
		check(square)
		less, _ := wide.Sub(square, api.U128{Lo: 1})
		check(less)
	}
}
