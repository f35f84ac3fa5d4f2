package judge_test

import (
	"math"
	"strings"
	"testing"

	"plumbline/api"
	"plumbline/judge"
	"plumbline/span"
	"plumbline/state"
)

// P12.3: Kill and 0, where there is nothing to ask.
func TestTestOfNothing(t *testing.T) {
	u := unit(t, every)
	s := state.Top(u)
	check := func(what string, r *state.State, traps api.Traps) {
		t.Helper()
		if r == nil || !r.Bottom() || traps != 0 {
			t.Errorf("%s: Bottom %v, %d", what, r.Bottom(), traps)
		}
	}
	for _, holds := range []bool{true, false} {
		r, traps := judge.Test(nil, s, tree(t, "1 < 2"), holds)
		check("nil unit", r, traps)
		for _, text := range []string{"1 < 2", "1 / 0 < 2", "i", "zz < 1"} {
			r, traps = judge.Test(u, s.Kill(), tree(t, text), holds)
			check("Bottom", r, traps)
			if r, traps = judge.Test(u, nil, tree(t, text), holds); r != nil || traps != 0 {
				t.Errorf("nil state: %v, %d", r, traps)
			}
		}
		for _, text := range []string{"1", "i", "1 / 0", "d", "zz < 1", "i < 1.0", "f < d", "ai < 1", "i < 2147483648", "!i", "i && i < 1", "(i < 1) + 1", "i < 1 && zz", "i < 1 || 1 / 0"} {
			r, traps = judge.Test(u, s, tree(t, text), holds)
			check(text, r, traps)
		}
		for _, x := range []api.Expr{{}, {Op: 99}, node(api.Lt, variable("i")), node(api.And, tree(t, "i < 1")), node(api.Not), node(api.Lt, variable("i"), api.Expr{})} {
			r, traps = judge.Test(u, s, x, holds)
			check("no expression", r, traps)
		}
	}
	if s.Bottom() {
		t.Error("the state was changed")
	}
}

// twice is what a condition leaves of i and j, where it holds, and where it does not.
type twice struct {
	text       string
	i, j       api.IntRange
	yesI, yesJ api.IntRange
	noI, noJ   api.IntRange
	traps      api.Traps
}

func checkTwice(t *testing.T, c twice) {
	t.Helper()
	u := unit(t, every)
	s := state.First(u).SetInt(i, c.i, false).SetInt(j, c.j, false)
	for _, holds := range []bool{true, false} {
		r, traps := judge.Test(u, s, tree(t, c.text), holds)
		wantI, wantJ := c.yesI, c.yesJ
		if !holds {
			wantI, wantJ = c.noI, c.noJ
		}
		if r.Int(i) != wantI || r.Int(j) != wantJ || r.Bottom() != wantI.Empty || traps != c.traps {
			t.Errorf("%s is %v with %v, %v: %v, %v, %d; want %v, %v, %d", c.text, holds, c.i, c.j, r.Int(i), r.Int(j), traps, wantI, wantJ, c.traps)
		}
		if !r.Within(s) {
			t.Errorf("%s: what is told is not within", c.text)
		}
		// The other way round, by Not.
		r2, traps2 := judge.Test(u, s, node(api.Not, tree(t, c.text)), !holds)
		if !r2.Same(r) || traps2 != traps {
			t.Errorf("!(%s) tells otherwise", c.text)
		}
	}
}

// P12.3: each comparison, by what it leaves of both.
func TestComparisons(t *testing.T) {
	a, b, zero := ints(0, 9), ints(3, 5), ints(0, 0)
	for _, c := range []twice{
		{"i < j", a, b, ints(0, 4), b, ints(3, 9), b, 0}, {"i <= j", a, b, ints(0, 5), b, ints(4, 9), b, 0}, {"i > j", a, b, ints(4, 9), b, ints(0, 5), b, 0}, {"i >= j", a, b, ints(3, 9), b, ints(0, 4), b, 0},
		{"i == j", a, b, b, b, a, b, 0}, {"i != j", a, b, a, b, b, b, 0}, {"i != j", ints(0, 5), ints(5, 5), ints(0, 4), ints(5, 5), ints(5, 5), ints(5, 5), 0}, {"i != j", ints(5, 5), ints(5, 9), ints(5, 5), ints(6, 9), ints(5, 5), ints(5, 5), 0},
		{"i < 3", a, zero, ints(0, 2), zero, ints(3, 9), zero, 0}, {"3 < i", a, zero, ints(4, 9), zero, ints(0, 3), zero, 0}, {"i == 3", a, zero, ints(3, 3), zero, a, zero, 0}, {"i != 0", a, zero, ints(1, 9), zero, zero, zero, 0}, {"9 != i", a, zero, ints(0, 8), zero, ints(9, 9), zero, 0},
		{"i < 0", a, zero, noInts, noInts, a, zero, 0}, {"i >= 0", a, zero, a, zero, noInts, noInts, 0}, {"i < 10", a, zero, a, zero, noInts, noInts, 0}, {"1 < 2", a, b, a, b, noInts, noInts, 0}, {"2 <= 1", a, b, noInts, noInts, a, b, 0}, {"1.0 == 1.0", a, b, a, b, noInts, noInts, 0}, {"float(1) != float(1)", a, b, noInts, noInts, a, b, 0},
		// The same variable on both sides.
		{"i < i", a, zero, noInts, noInts, a, zero, 0}, {"i <= i", a, zero, a, zero, noInts, noInts, 0}, {"i == i", a, zero, a, zero, a, zero, 0}, {"i >= i", a, zero, a, zero, noInts, noInts, 0}, {"i != i", ints(4, 4), zero, noInts, noInts, ints(4, 4), zero, 0}, {"i < i + 1", a, zero, a, zero, noInts, noInts, 0}, {"-i == i", ints(-5, 9), zero, zero, zero, ints(-5, 9), zero, 0},
		// A variable and a number, a variable and what is known of both.
		{"i + 1 < 5", a, zero, ints(0, 3), zero, ints(4, 9), zero, 0}, {"3 - i >= 1", a, zero, ints(0, 2), zero, ints(3, 9), zero, 0}, {"-i < -7", a, zero, ints(8, 9), zero, ints(0, 7), zero, 0}, {"i < j + 1", a, b, ints(0, 5), b, ints(4, 9), b, 0}, {"i + j < j", a, b, a, ints(4, 5), a, b, 0}, {"i - 2 == j", a, b, ints(5, 7), b, a, b, 0},
		// At the ends.
		{"i < -2147483647 - 1", ints(api.MinInt, 5), zero, noInts, noInts, ints(api.MinInt, 5), zero, 0}, {"i <= 2147483647", ints(0, api.MaxInt), zero, ints(0, api.MaxInt), zero, noInts, noInts, 0}, {"i + 2147483647 > 2147483646", ints(-5, 0), zero, zero, zero, ints(-5, -1), zero, 0},
		{"i + 1 > j", ints(api.MaxInt-1, api.MaxInt), zero, ints(api.MaxInt-1, api.MaxInt-1), zero, noInts, noInts, trapsOf(api.TrapOver)},
		// Traps of both sides, the first one's ahead.
		{"1 / i < 1", a, zero, a, zero, a, zero, trapsOf(api.TrapZero)}, {"1 / j < 1", a, zero, noInts, noInts, noInts, noInts, trapsOf(api.TrapZero)}, {"1 / j < ai[3]", a, zero, noInts, noInts, noInts, noInts, trapsOf(api.TrapZero)}, {"ai[3] < 1 / j", a, zero, noInts, noInts, noInts, noInts, trapsOf(api.TrapIndex)}, {"1 / i < ai[3]", a, zero, noInts, noInts, noInts, noInts, trapsOf(api.TrapZero, api.TrapIndex)},
		{"i < ai[3]", a, zero, noInts, noInts, noInts, noInts, trapsOf(api.TrapIndex)}, {"sqrt(-1.0) < 1.0 / 0.0", a, zero, noInts, noInts, noInts, noInts, trapsOf(api.TrapNan)},
	} {
		checkTwice(t, c)
	}
}

// P12.3: And, Or and Not; the second one is asked where the first one does not decide.
func TestTruths(t *testing.T) {
	a, zero, zeroTrap, index := ints(0, 9), ints(0, 0), trapsOf(api.TrapZero), trapsOf(api.TrapIndex)
	for _, c := range []twice{
		{"i < 3 && i != 0", a, zero, ints(1, 2), zero, a, zero, 0}, {"i > 3 && i < 6", a, zero, ints(4, 5), zero, a, zero, 0}, {"i < 3 || i < 6", a, zero, ints(0, 5), zero, ints(6, 9), zero, 0}, {"i < 3 || i > 6", a, zero, a, zero, ints(3, 6), zero, 0},
		{"!(i < 3)", a, zero, ints(3, 9), zero, ints(0, 2), zero, 0}, {"!!(i < 3)", a, zero, ints(0, 2), zero, ints(3, 9), zero, 0}, {"!(i < 3 && j == 0)", a, zero, ints(3, 9), zero, ints(0, 2), zero, 0}, {"!(i < 3 || i > 6)", a, zero, ints(3, 6), zero, a, zero, 0},
		{"i < 3 && i > 6", a, zero, noInts, noInts, a, zero, 0}, {"i < 6 || i > 3", a, zero, a, zero, noInts, noInts, 0}, {"i > 2 && (i < 5 || i == 7)", a, zero, ints(3, 7), zero, a, zero, 0}, {"(i < 2 || i > 7) && (i > 1 && i < 9)", a, zero, ints(2, 8), zero, a, zero, 0},
		// The first one decides: what stands behind it has no trap.
		{"i != 0 && 10 / i > 3", a, zero, ints(1, 9), zero, a, zero, 0}, {"i == 0 || 10 / i > 3", a, zero, a, zero, ints(1, 9), zero, 0}, {"i < 0 && 1 / j > 0", a, zero, noInts, noInts, a, zero, 0}, {"i >= 0 || 1 / j > 0", a, zero, a, zero, noInts, noInts, 0},
		{"i >= 0 && i < 3 && ai[i] == 0", ints(-5, 9), zero, ints(0, 2), zero, ints(-5, 9), zero, 0}, {"!(i < 0 || i > 2) && ai[i] == 0", ints(-5, 9), zero, ints(0, 2), zero, ints(-5, 9), zero, 0},
		// It does not.
		{"10 / i > 3 && i != 0", a, zero, ints(1, 9), zero, a, zero, zeroTrap}, {"i > 3 && 1 / j > 0", a, zero, noInts, noInts, ints(0, 3), zero, zeroTrap}, {"i > 3 || 1 / j > 0", a, zero, ints(4, 9), zero, noInts, noInts, zeroTrap}, {"1 / j > 0 && ai[9] > 0", a, zero, noInts, noInts, noInts, noInts, zeroTrap}, {"1 / j > 0 || ai[9] > 0", a, zero, noInts, noInts, noInts, noInts, zeroTrap},
		{"1 / i >= 0 && ai[9] > 0", a, zero, noInts, noInts, noInts, noInts, zeroTrap | index}, {"ai[i] == 0 && i > 0", a, zero, ints(1, 9), zero, zero, zero, index}, {"!(1 / j > 0)", a, zero, noInts, noInts, noInts, noInts, zeroTrap},
	} {
		checkTwice(t, c)
	}
}

// Where one is below the other it stays so: what is known of two ints is kept.
func TestConditionsRelate(t *testing.T) {
	u := unit(t, every)
	s := state.Top(u).LessInt(i, ints(0, 9)).LessInt(j, ints(0, 9))
	for _, c := range []struct {
		text   string
		holds  bool
		at     int64 // of i
		lo, hi int64 // of j then
	}{
		{"i < j", true, 4, 5, 9}, {"i < j", false, 4, 0, 4}, {"i <= j", true, 4, 4, 9}, {"i <= j", false, 4, 0, 3}, {"i > j", true, 4, 0, 3}, {"i > j", false, 4, 4, 9}, {"i >= j", true, 4, 0, 4}, {"i >= j", false, 4, 5, 9},
		{"i == j", true, 4, 4, 4}, {"i != j", false, 4, 4, 4}, {"i != j", true, 4, 0, 9}, {"i + 2 < j - 1", true, 4, 8, 9}, {"3 - i <= j", true, 1, 2, 9}, {"10 - i == j", true, 4, 6, 6}, {"-i >= j - 7", true, 4, 0, 3}, {"-i < -j", true, 4, 0, 3}, {"j - 3 == i", true, 4, 7, 7}, {"i < j && i + 3 > j", true, 4, 5, 6},
	} {
		r, traps := judge.Test(u, s, tree(t, c.text), c.holds)
		if got := r.LessInt(i, ints(c.at, c.at)).Int(j); got != ints(c.lo, c.hi) || traps != 0 {
			t.Errorf("%s is %v: where i is %d, j is %v; want %d to %d", c.text, c.holds, c.at, got, c.lo, c.hi)
		}
	}
}

// P12.3: comparisons of floats.
func TestComparisonsOfFloats(t *testing.T) {
	u := unit(t, every)
	next, prev := math.Nextafter(1, 2), math.Nextafter(1, 0)
	for _, c := range []struct {
		text      string
		yes, no   api.FloatRange // of d, which is -2 to 3
		yesE, no2 api.FloatRange // of e, which is 1 to 1
	}{
		{"d < 1.0", doubles(-2, prev), doubles(1, 3), doubles(1, 1), doubles(1, 1)}, {"d <= 1.0", doubles(-2, 1), doubles(next, 3), doubles(1, 1), doubles(1, 1)}, {"d > 1.0", doubles(next, 3), doubles(-2, 1), doubles(1, 1), doubles(1, 1)}, {"d >= 1.0", doubles(1, 3), doubles(-2, prev), doubles(1, 1), doubles(1, 1)},
		{"d == 1.0", doubles(1, 1), doubles(-2, 3), doubles(1, 1), doubles(1, 1)}, {"d != 3.0", doubles(-2, math.Nextafter(3, 0)), doubles(3, 3), doubles(1, 1), doubles(1, 1)}, {"1.0 > d", doubles(-2, prev), doubles(1, 3), doubles(1, 1), doubles(1, 1)},
		{"e < d", doubles(next, 3), doubles(-2, 1), doubles(1, 1), doubles(1, 1)}, {"d < -2.0", noFloats, doubles(-2, 3), noFloats, doubles(1, 1)}, {"d < 0.0", doubles(-2, -leastOne), doubles(0, 3), doubles(1, 1), doubles(1, 1)}, {"d + 1.0 < 2.0", doubles(-2, 3), doubles(-2, 3), doubles(1, 1), doubles(1, 1)},
		{"d + 3.0 < 1.0", noFloats, doubles(-2, 3), noFloats, doubles(1, 1)}, {"d == d", doubles(-2, 3), doubles(-2, 3), doubles(1, 1), doubles(1, 1)}, {"e != e", noFloats, doubles(-2, 3), noFloats, doubles(1, 1)},
	} {
		s := state.First(u).SetFloat(d, doubles(-2, 3), false).SetFloat(e, doubles(1, 1), false)
		for holds, want := range map[bool][2]api.FloatRange{true: {c.yes, c.yesE}, false: {c.no, c.no2}} {
			r, traps := judge.Test(u, s, tree(t, c.text), holds)
			if r.Float(d) != want[0] || r.Float(e) != want[1] || r.Bottom() != want[0].Empty || traps != 0 || !r.Within(s) {
				t.Errorf("%s is %v: %v, %v, %d; want %v", c.text, holds, r.Float(d), r.Float(e), traps, want)
			}
		}
	}
	s := state.First(u).SetFloat(f, singles(-2, 3), false).SetFloat(g, singles(1, 2), false)
	r, _ := judge.Test(u, s, tree(t, "f < g"), true)
	if r.Float(f) != singles(-2, math.Nextafter32(2, 0)) || r.Float(g) != singles(1, 2) {
		t.Error("f < g leaves", r.Float(f), r.Float(g))
	}
	r, _ = judge.Test(u, s, tree(t, "f < g"), false)
	if r.Float(f) != singles(1, 3) || r.Float(g) != singles(1, 2) {
		t.Error("f < g, that does not hold, leaves", r.Float(f), r.Float(g))
	}
}

// P12.3: a side that is a Var has a range within what Refine leaves of both sides', whatever the other one is.
func TestSidesAreRefined(t *testing.T) {
	u := unit(t, every)
	opposite := map[api.Op]api.Op{api.Lt: api.Ge, api.Le: api.Gt, api.Gt: api.Le, api.Ge: api.Lt, api.Eq: api.Ne, api.Ne: api.Eq}
	d := dice(99)
	for range 3000 {
		s, _ := d.stateOf(u)
		kind := pick(&d, api.IntType, api.FloatType, api.DoubleType)
		w := writer{&d}
		op, sides := pick(&d, api.Lt, api.Le, api.Gt, api.Ge, api.Eq, api.Ne), [2]api.Expr{variable(w.plainVar(kind)), w.expr(kind, 3)}
		if d.coin() {
			sides[0], sides[1] = sides[1], sides[0]
		}
		a, _ := judge.Eval(u, s, sides[0])
		b, _ := judge.Eval(u, s, sides[1])
		for _, holds := range []bool{true, false} {
			told, _ := judge.Test(u, s, node(op, sides[0], sides[1]), holds)
			by := op
			if !holds {
				by = opposite[op]
			}
			p, q := span.IntRefine(by, a.Int, b.Int)
			format := formatOf(kind)
			x, y := span.Refine(format, by, a.Float, b.Float)
			for k, left := range []judge.Value{{Int: p, Float: x}, {Int: q, Float: y}} {
				v, ok := u.Place(sides[k].Text)
				if !ok || sides[k].Op != api.Var {
					continue
				}
				if !span.IntWithin(told.Int(v), left.Int) || !span.Within(format, told.Float(v), left.Float) {
					t.Fatalf("%v %d %v is %v: %d has %v, %v, not within %v", sides[0], op, sides[1], holds, v, told.Int(v), told.Float(v), left)
				}
			}
		}
	}
}

// Conditions in conditions, as deep as they may be, are told in no time, and so are wide ones.
func TestDeepConditions(t *testing.T) {
	u := unit(t, every)
	s := state.Top(u)
	deep := tree(t, "i < j")
	for k := range api.MaxDeep - 2 {
		deep = node([]api.Op{api.And, api.Or}[k%2], deep, tree(t, "i < 5"))
	}
	for k, x := range []api.Expr{deep, tree(t, strings.Repeat("(i < 3 && j > i || ", 20)+"i == j"+strings.Repeat(")", 20))} {
		for _, holds := range []bool{true, false} {
			if r, traps := judge.Test(u, s, x, holds); !r.Within(s) || traps != 0 {
				t.Errorf("the deep condition %d is not within", k)
			}
		}
	}
}
