package soft_test

import (
	"math/big"
	"testing"

	"plumbline/api"
	"plumbline/soft"
)

// whole are wide numbers of all lengths, and some whose last bits make a half, or nearly one.
func whole() []api.U128 {
	l := []api.U128{{}, {Lo: 1}, {Lo: 2}, {Lo: 3}, {Lo: 5}, {Lo: 7}, {Hi: 1<<64 - 1, Lo: 1<<64 - 1}, {Hi: 1 << 63}, {Hi: 1 << 62}, {Hi: 1<<63 - 1, Lo: 1<<64 - 1}}
	for _, at := range []int{22, 23, 24, 25, 26, 51, 52, 53, 54, 55, 63} {
		n := uint64(1) << at
		l = append(l, api.U128{Lo: n}, api.U128{Lo: n - 1}, api.U128{Lo: n + 1}, api.U128{Lo: n + 2}, api.U128{Lo: n + 3})
		l = append(l, api.U128{Hi: n, Lo: 1}, api.U128{Hi: n, Lo: 1 << 63}, api.U128{Hi: n + 1, Lo: 1 << 63}, api.U128{Hi: n, Lo: 1<<63 - 1}, api.U128{Hi: n - 1, Lo: 1<<64 - 1})
	}
	return l
}

// worth is n, and a quarter, if more, times 2 to the e within its limits.
func worth(n api.U128, e int, more, below bool) *big.Rat {
	i := new(big.Int).SetUint64(n.Hi)
	i.Add(i.Lsh(i, 64), new(big.Int).SetUint64(n.Lo))
	v := new(big.Rat).SetInt(i)
	if more {
		v.Add(v, big.NewRat(1, 4))
	}
	v.Mul(v, power(min(max(e, -4000), 4000)))
	if below {
		v.Neg(v)
	}
	return v
}

func checkRound(t *testing.T, f api.Format, n api.U128, e int, more, below bool) {
	t.Helper()
	s := shapeOf(f)
	var all [4]uint64
	if v := worth(n, e, more, below); v.Sign() != 0 {
		all = s.rounded(truthOf(v))
	} else if below {
		all = [4]uint64{1 << (s.width - 1), 1 << (s.width - 1), 1 << (s.width - 1), 1 << (s.width - 1)}
	}
	for _, m := range modes {
		if got := soft.Round(f, m, below, n, e, more); got != all[modeOf(m)] {
			t.Fatalf("Round(%d, %d, %v, %x, %d, %v) = %x; want %x", f, m, below, n, e, more, got, all[modeOf(m)])
		}
	}
}

func TestRound(t *testing.T) {
	powers := map[api.Format][]int{
		api.Double: {0, 1, -1, -53, 900, 960, 971, 1020, -960, -1000, -1022, -1074, -1075, -1076, -1077, -1127, -1200},
		api.Single: {0, 1, -1, -24, 64, 100, 104, 126, -60, -100, -126, -149, -150, -151, -152, -173, -280},
	}
	for f, l := range powers {
		for _, n := range whole() {
			for _, e := range l {
				checkRound(t, f, n, e, false, false)
				checkRound(t, f, n, e, true, true)
				checkRound(t, f, n, e, true, false)
				checkRound(t, f, n, e, false, true)
			}
		}
	}
}

func TestRoundFarOut(t *testing.T) {
	for _, f := range []api.Format{api.Double, api.Single, -3} {
		for _, n := range []api.U128{{}, {Lo: 1}, {Lo: 3}, {Hi: 1<<64 - 1, Lo: 1<<64 - 1}} {
			for _, e := range []int{-1 << 63, -4001, -4000, -3999, -2000, 1100, 2000, 3000, 3021, 3100, 3500, 3999, 4000, 4001, 1<<63 - 1} {
				for _, below := range []bool{false, true} {
					checkRound(t, f, n, e, false, below)
					checkRound(t, f, n, e, true, below)
				}
			}
		}
	}
}

// Halves go to the even one; a quarter more decides, and is a quarter, no less and no more.
func TestRoundHalves(t *testing.T) {
	for i, c := range []struct {
		f    api.Format
		n    uint64
		e    int
		more bool
		want uint64
	}{
		{api.Single, 1<<24 + 1, 0, false, 0x4b800000},
		{api.Single, 1<<24 + 1, 0, true, 0x4b800001},
		{api.Single, 1<<24 + 3, 0, false, 0x4b800002},
		{api.Single, 1<<24 - 1, 0, true, 0x4b7fffff},
		{api.Double, 1<<53 + 1, 0, false, 0x4340000000000000},
		{api.Double, 1<<53 + 1, 0, true, 0x4340000000000001},
		{api.Double, 1<<53 + 3, 0, false, 0x4340000000000002},
		{api.Double, 0, 0, true, 0x3fd0000000000000},
		{api.Double, 1, 0, true, 0x3ff4000000000000},
		{api.Double, 0, -1072, true, 1},
		{api.Double, 0, -1073, true, 0},
		{api.Double, 1, -1075, false, 0},
		{api.Double, 1, -1075, true, 1},
		{api.Double, 3, -1075, false, 2},
		{api.Double, 1<<54 - 1, 970, false, 0x7ff0000000000000},
		{api.Double, 1<<54 - 2, 970, true, 0x7fefffffffffffff},
		{api.Single, 1<<25 - 1, 103, false, 0x7f800000},
		{api.Single, 1<<25 - 2, 103, true, 0x7f7fffff},
	} {
		if got := soft.Round(c.f, api.Near, false, api.U128{Lo: c.n}, c.e, c.more); got != c.want {
			t.Errorf("%d: %x; want %x", i, got, c.want)
		}
	}
}
