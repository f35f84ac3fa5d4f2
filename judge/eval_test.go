package judge_test

import (
	"math"
	"strings"
	"testing"

	"plumbline/api"
	"plumbline/judge"
	"plumbline/state"
)

// P12.1: nothing is told where there is nothing to ask.
func TestEvalOfNothing(t *testing.T) {
	u := unit(t, every)
	s, deep := state.Top(u), variable("i")
	for range api.MaxDeep {
		deep = node(api.Neg, deep)
	}
	if v, traps := judge.Eval(nil, s, tree(t, "1")); v != nothing || traps != 0 {
		t.Errorf("Eval of a nil unit: %v, %d", v, traps)
	}
	for _, none := range []*state.State{nil, s.Kill(), s.LessInt(i, noInts)} {
		for _, text := range []string{"1", "1 / 0", "ai[7]", "1.0 / 0.0", "i", "i < 1", "zz"} {
			if v, traps := judge.Eval(u, none, tree(t, text)); v != nothing || traps != 0 {
				t.Errorf("Eval(%s) of a nil or Bottom state: %v, %d", text, v, traps)
			}
		}
	}
	for _, text := range []string{"i < 1", "!(i < 1)", "i < 1 && i > 2", "1 / 0 < 1", "zz", "ai", "i[0]", "i + 1.0", "d + f", "ai[0.0]", "sqrt(i)", "!i", "2147483648", "1234567890123456789", "i && i"} {
		if v, traps := judge.Eval(u, s, tree(t, text)); v != nothing || traps != 0 {
			t.Errorf("Eval(%s): %v, %d", text, v, traps)
		}
	}
	for _, x := range []api.Expr{{}, {Op: api.Const}, {Op: -1}, {Op: 99}, node(api.Add, variable("i")), {Op: api.Cell, Text: "ai"}, {Op: api.Var, Text: "i", Type: api.IntType}, node(api.Neg), {Op: api.Cast, Kids: []api.Expr{variable("i")}}, deep} {
		if v, traps := judge.Eval(u, s, x); v != nothing || traps != 0 {
			t.Errorf("Eval(%v): %v, %d", x, v, traps)
		}
	}
	// A tree that has itself inside.
	loop := node(api.Neg, variable("i"))
	loop.Kids[0] = loop
	if v, traps := judge.Eval(u, s, loop); v != nothing || traps != 0 {
		t.Errorf("Eval of a tree without an end: %v, %d", v, traps)
	}
}

type intCase struct {
	text string
	i, j api.IntRange
	want api.IntRange
	trap api.Traps
}

func intCases() []intCase {
	zero, top := ints(0, 0), ints(api.MinInt, api.MaxInt)
	over, index := trapsOf(api.TrapOver), trapsOf(api.TrapIndex)
	return []intCase{
		{"7", zero, zero, ints(7, 7), 0}, {"2147483647", zero, zero, ints(api.MaxInt, api.MaxInt), 0}, {"i", ints(-2, 3), zero, ints(-2, 3), 0}, {"j", zero, top, top, 0},
		{"i + 1", ints(0, 3), zero, ints(1, 4), 0}, {"i + j", ints(0, 3), ints(-5, 5), ints(-5, 8), 0}, {"i + 1", top, zero, ints(api.MinInt+1, api.MaxInt), over}, {"i + 1", ints(api.MaxInt, api.MaxInt), zero, noInts, over},
		{"i - j", ints(0, 3), ints(-5, 5), ints(-5, 8), 0}, {"i - 1", top, zero, ints(api.MinInt, api.MaxInt-1), over}, {"i - 1", ints(api.MinInt, api.MinInt), zero, noInts, over},
		{"i * j", ints(1, 3), ints(-2, 2), ints(-6, 6), 0}, {"i * i", ints(0, 46341), zero, ints(0, api.MaxInt), over}, {"i * j", ints(65536, 65536), ints(65536, 65536), noInts, over},
		{"1 / i", ints(0, 3), zero, ints(0, 1), trapsOf(api.TrapZero)}, {"1 / i", ints(-1, 1), zero, ints(-1, 1), trapsOf(api.TrapZero)}, {"1 / i", zero, zero, noInts, trapsOf(api.TrapZero)}, {"i / j", ints(-7, 7), ints(2, 3), ints(-3, 3), 0}, {"i / -1", top, zero, ints(-api.MaxInt, api.MaxInt), over}, {"1 / i", ints(1, 3), zero, ints(0, 1), 0},
		{"-i", ints(-2, 3), zero, ints(-3, 2), 0}, {"-i", top, zero, ints(-api.MaxInt, api.MaxInt), over}, {"-i", ints(api.MinInt, api.MinInt), zero, noInts, over}, {"--i", top, zero, ints(-api.MaxInt, api.MaxInt), over},
		{"abs(i)", ints(-5, 3), zero, ints(0, 5), 0}, {"abs(i)", ints(-5, -3), zero, ints(3, 5), 0}, {"abs(i)", top, zero, ints(0, api.MaxInt), over}, {"abs(i)", ints(api.MinInt, api.MinInt), zero, noInts, over},
		{"int(i)", top, zero, top, 0}, {"int(double(i))", top, zero, top, 0}, {"int(float(i))", ints(-9, 9), zero, ints(-9, 9), 0}, {"int(float(i))", ints(0, api.MaxInt), zero, ints(0, api.MaxInt), trapsOf(api.TrapConv)},
		{"int(2147483648.0)", zero, zero, noInts, trapsOf(api.TrapConv)}, {"int(-2147483648.5)", zero, zero, ints(api.MinInt, api.MinInt), 0}, {"int(1.9)", zero, zero, ints(1, 1), 0}, {"int(-1.9)", zero, zero, ints(-1, -1), 0},
		// Cells of an array: they are 10 to 12, whichever is asked for.
		{"ai[0]", zero, zero, ints(10, 12), 0}, {"ai[2]", zero, zero, ints(10, 12), 0}, {"ai[3]", zero, zero, noInts, index}, {"ai[-1]", zero, zero, noInts, index}, {"ai[i]", ints(0, 2), zero, ints(10, 12), 0},
		{"ai[i]", ints(0, 3), zero, ints(10, 12), index}, {"ai[i]", ints(-1, 2), zero, ints(10, 12), index}, {"ai[i]", top, zero, ints(10, 12), index}, {"ai[i]", ints(3, 9), zero, noInts, index}, {"ai[i]", ints(-9, -1), zero, noInts, index},
		{"ai[ai[i] - 10]", ints(0, 2), zero, ints(10, 12), 0},
		// From the left: behind what always traps nothing is asked.
		{"1 / i + ai[3]", zero, zero, noInts, trapsOf(api.TrapZero)}, {"ai[3] + 1 / i", zero, zero, noInts, index}, {"1 / i + ai[3]", ints(0, 1), zero, noInts, trapsOf(api.TrapZero, api.TrapIndex)}, {"ai[1 / i]", zero, zero, noInts, trapsOf(api.TrapZero)},
		{"(2147483647 + 1) / i", zero, zero, noInts, over}, {"1 / i + (2147483647 + j)", ints(0, 1), ints(-1, 1), ints(api.MaxInt, api.MaxInt), trapsOf(api.TrapZero, api.TrapOver)}, {"abs(-(1 / i))", zero, zero, noInts, trapsOf(api.TrapZero)}, {"int(double(1 / i))", zero, zero, noInts, trapsOf(api.TrapZero)},
		{"1 + 1 / i", zero, zero, noInts, trapsOf(api.TrapZero)}, {"int(1.0 / 0.0) + 1 / i", zero, zero, noInts, trapsOf(api.TrapInf)},
	}
}

// P12.1: each Op on ints; ranges as span has them.
func TestEvalOfInts(t *testing.T) {
	u := unit(t, every)
	for _, c := range intCases() {
		s := state.Top(u).LessInt(ai, ints(10, 12)).SetInt(i, c.i, false).SetInt(j, c.j, false)
		v, traps := judge.Eval(u, s, tree(t, c.text))
		if v != intValue(c.want) || traps != c.trap {
			t.Errorf("%s with %v, %v: %v, %d; want %v, %d", c.text, c.i, c.j, v, traps, c.want, c.trap)
		}
	}
}

type doubleCase struct {
	text   string
	lo, hi float64
	want   api.FloatRange
	trap   api.Traps
}

// P12.1: each Op on doubles.
func TestEvalOfDoubles(t *testing.T) {
	u := unit(t, every)
	inf, nan, index := trapsOf(api.TrapInf), trapsOf(api.TrapNan), trapsOf(api.TrapIndex)
	for _, c := range []doubleCase{
		{"0.1", 0, 0, doubles(0.1, 0.1), 0}, {"0.0", 0, 0, doubles(0, 0), 0}, {"d", -2, 3, doubles(-2, 3), 0}, {"-d", -2, 3, doubles(-3, 2), 0}, {"-d", 0, 0, doubles(0, 0), 0},
		{"abs(d)", -5, 3, doubles(0, 5), 0}, {"abs(d)", -5, -3, doubles(3, 5), 0}, {"abs(d)", -mostDouble, mostDouble, doubles(0, mostDouble), 0},
		{"sqrt(d)", 0, 4, doubles(0, 2), 0}, {"sqrt(d)", -1, 4, doubles(0, 2), nan}, {"sqrt(d)", -4, -leastOne, noFloats, nan}, {"sqrt(d)", 2, 2, doubles(math.Sqrt2, math.Sqrt2), 0},
		{"d + 1.0", 0, 3, doubles(1, 4), 0}, {"d + d", 0, mostDouble, doubles(0, mostDouble), inf}, {"d + d", mostDouble, mostDouble, noFloats, inf}, {"d + 0.2", 0.1, 0.1, doubles(0.30000000000000004, 0.30000000000000004), 0},
		{"d - 0.5", 0, 3, doubles(-0.5, 2.5), 0}, {"-d - d", mostDouble, mostDouble, noFloats, inf},
		{"d * 2.0", -1, 3, doubles(-2, 6), 0}, {"d * d", -mostDouble, mostDouble, doubles(-mostDouble, mostDouble), inf}, {"d * d", leastOne, leastOne, doubles(0, 0), 0},
		{"1.0 / d", 1, 2, doubles(0.5, 1), 0}, {"1.0 / d", 0, 2, doubles(0.5, mostDouble), inf}, {"d / d", 0, 0, noFloats, nan}, {"d / 0.0", 0, 1, noFloats, nan | inf}, {"d / 0.0", 1, 2, noFloats, inf}, {"0.0 / d", 0, 1, doubles(0, 0), nan}, {"d / 3.0", 1, 1, doubles(1.0/3, 1.0/3), 0},
		{"double(d)", -2, 3, doubles(-2, 3), 0}, {"double(float(d))", 0.1, 0.1, doubles(float64(float32(0.1)), float64(float32(0.1))), 0}, {"double(float(d))", 0, mostDouble, doubles(0, mostSingle), inf}, {"double(float(d))", 1e39, mostDouble, noFloats, inf},
		{"double(int(d))", -1.5, 2.5, doubles(-1, 2), 0}, {"double(int(d))", 0, 1e10, doubles(0, api.MaxInt), trapsOf(api.TrapConv)}, {"double(i)", 0, 0, doubles(-3, 4), 0},
		{"ad[0]", 0, 0, doubles(-1, 1), 0}, {"ad[1]", 0, 0, doubles(-1, 1), 0}, {"ad[2]", 0, 0, noFloats, index}, {"ad[i]", 0, 0, doubles(-1, 1), index}, {"ad[int(d)]", 0, 1.5, doubles(-1, 1), 0}, {"sqrt(ad[0])", 0, 0, doubles(0, 1), nan},
		{"d / d + sqrt(1.0 / d)", 0, 0, noFloats, nan}, {"1.0 / d + d / d", 0, 0, noFloats, inf}, {"ad[3] + d / d", 0, 0, noFloats, index}, {"sqrt(-(1.0 / d))", 0, 0, noFloats, inf}, {"1.0 + 1.0 / d", 0, 0, noFloats, inf}, {"double(1.0 / d)", 0, 0, noFloats, inf},
		{"d - d", -1, 3, doubles(0, 0), 0}, {"d - d", -mostDouble, mostDouble, doubles(0, 0), 0},
	} {
		s := state.Top(u).LessFloat(d, doubles(c.lo, c.hi)).LessInt(i, ints(-3, 4)).LessFloat(ad, doubles(-1, 1))
		if v, traps := judge.Eval(u, s, tree(t, c.text)); v != doubleValue(c.want) || traps != c.trap {
			t.Errorf("%s with %v to %v: %v, %d; want %v, %d", c.text, c.lo, c.hi, v, traps, c.want, c.trap)
		}
	}
}

// P12.1: each Op on floats.
func TestEvalOfSingles(t *testing.T) {
	u := unit(t, every)
	inf, nan, index := trapsOf(api.TrapInf), trapsOf(api.TrapNan), trapsOf(api.TrapIndex)
	for _, c := range []struct {
		text   string
		lo, hi float32
		want   api.FloatRange
		trap   api.Traps
	}{
		{"f", -2, 3, singles(-2, 3), 0}, {"-f", -2, 3, singles(-3, 2), 0}, {"abs(f)", -5, 3, singles(0, 5), 0}, {"sqrt(f)", -1, 4, singles(0, 2), nan}, {"sqrt(f)", -4, -leastHalf, noFloats, nan},
		{"f + float(1)", 0, 3, singles(1, 4), 0}, {"f + f", 0, mostSingle, singles(0, mostSingle), inf}, {"f + f", mostSingle, mostSingle, noFloats, inf}, {"f - float(0.5)", 0, 3, singles(-0.5, 2.5), 0}, {"f * f", leastHalf, leastHalf, singles(0, 0), 0}, {"f * float(2)", -1, 3, singles(-2, 6), 0},
		{"float(1) / f", 0, 2, singles(0.5, mostSingle), inf}, {"f / f", 0, 0, noFloats, nan}, {"f / float(3)", 1, 1, singles(float32(1)/3, float32(1)/3), 0}, {"f + float(16777216)", 1, 1, singles(16777216, 16777216), 0},
		{"float(f)", -2, 3, singles(-2, 3), 0}, {"float(0.1)", 0, 0, singles(0.1, 0.1), 0}, {"float(d)", 0, 0, singles(-mostSingle, mostSingle), inf}, {"float(i)", 0, 0, singles(-3, 4), 0}, {"float(16777217)", 0, 0, singles(16777216, 16777216), 0}, {"float(2147483647)", 0, 0, singles(2147483648, 2147483648), 0},
		{"af[0]", 0, 0, singles(-1, 1), 0}, {"af[1]", 0, 0, noFloats, index}, {"af[i]", 0, 0, singles(-1, 1), index}, {"f - f", -mostSingle, mostSingle, singles(0, 0), 0},
	} {
		s := state.Top(u).LessFloat(f, singles(c.lo, c.hi)).LessInt(i, ints(-3, 4)).LessFloat(af, singles(-1, 1))
		if v, traps := judge.Eval(u, s, tree(t, c.text)); v != singleValue(c.want) || traps != c.trap {
			t.Errorf("%s with %v to %v: %v, %d; want %v, %d", c.text, c.lo, c.hi, v, traps, c.want, c.trap)
		}
	}
}

// A variable that stands in an expression twice is the same both times: what is left is what rounding may change.
func TestEvalOfTheSameTwice(t *testing.T) {
	u := unit(t, every)
	s := state.Top(u).LessFloat(d, doubles(8, 9)).LessFloat(e, doubles(-1, 1)).LessFloat(f, singles(8, 9)).LessFloat(g, singles(-1, 1))
	for _, c := range []struct {
		text   string
		lo, hi float64
	}{
		{"d + d - d - d", 0, 0}, {"2.0 * d - d - d", 0, 0}, {"d * 2.0 - d - d", 0, 0}, {"-d + d", 0, 0}, {"(d + e) - d", -1, 1}, {"(d - e) - d", -1, 1}, {"d - (d - 3.0 * e)", -3, 3}, {"-(-d) - d", 0, 0}, {"double(float(d)) - d", -1e-6, 1e-6},
		{"double(f) - double(f)", 0, 0}, {"double(f + g) - double(f)", -1, 1}, {"double(f * float(2) - f - f)", 0, 0}, {"double(-f + (f - g))", -1, 1}, {"d + e - (d - e) - 2.0 * e", 0, 0},
	} {
		v, traps := judge.Eval(u, s, tree(t, c.text))
		slack := 1e-13
		if strings.Contains(c.text, "f") {
			slack = 1e-4
		}
		lo, hi := math.Float64frombits(v.Float.Lo), math.Float64frombits(v.Float.Hi)
		if v.Float.Empty || lo > c.lo || hi < c.hi || lo < c.lo-slack || hi > c.hi+slack || traps != 0 {
			t.Errorf("%s is %v to %v, %d; want %v to %v, or hardly more", c.text, lo, hi, traps, c.lo, c.hi)
		}
	}
	// What comes back from far off is not too great, though it was near it; what is, is told.
	s = state.Top(u).LessFloat(d, doubles(1e308, 1.5e308)).LessFloat(f, singles(2e38, 3e38))
	for _, c := range []struct {
		text string
		trap api.Traps
	}{
		{"d - (d - 1.0)", 0}, {"d + (1.0 - d)", 0}, {"(d - 1.0) - d", 0}, {"d - (1.0 - d)", trapsOf(api.TrapInf)}, {"double(f - (f - float(1)))", 0}, {"double(f - (float(1) - f))", trapsOf(api.TrapInf)}, {"double(f) - (1.0 - double(f))", 0},
		{"3.0 * d - d - d", trapsOf(api.TrapInf)}, {"e - e + e", 0}, {"e - (e - e)", 0}, {"e - (d - e)", trapsOf(api.TrapInf)}, {"e + e - e", trapsOf(api.TrapInf)},
	} {
		if _, traps := judge.Eval(u, s, tree(t, c.text)); traps != c.trap {
			t.Errorf("%s may trap: %d; want %d", c.text, traps, c.trap)
		}
	}
}

// The chapter's example.
func TestExample(t *testing.T) {
	u := unit(t, "int i;")
	s := state.First(u).SetInt(0, ints(0, 3), false)
	if v, traps := judge.Eval(u, s, tree(t, "i + 1")); v != intValue(ints(1, 4)) || traps != 0 {
		t.Error(v, traps)
	}
	if v, traps := judge.Eval(u, s, tree(t, "1 / i")); v != intValue(ints(0, 1)) || traps != trapsOf(api.TrapZero) {
		t.Error(v, traps)
	}
}

// Of a state of another program calls end, that is all.
func TestStatesOfOthers(t *testing.T) {
	u := unit(t, every)
	for _, text := range []string{"", "int i;", "double i; int f; float d;", "int a; int b; int c[2]; double x[3];", "float a; float b; float c; float x; float y; float z; float k;"} {
		for _, s := range []*state.State{state.First(unit(t, text)), state.Top(unit(t, text))} {
			for _, e := range []string{"i", "d - d + e", "f * g", "ai[i] + j", "af[0] + f", "double(f) + d", "ad[1]"} {
				judge.Eval(u, s, tree(t, e))
			}
			for _, e := range []string{"i < j", "d < e && f >= g", "i + 1 == 3 - j || ai[0] > 1"} {
				judge.Test(u, s, tree(t, e), true)
				judge.Test(u, s, tree(t, e), false)
			}
		}
	}
}
