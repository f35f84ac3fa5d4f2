package fint_test

import (
	"math"
	"slices"
	"testing"

	"plumbline/api"
	"plumbline/fint"
)

const declarations = "int i; float f; double d; int ai[3]; float af[1]; double ad[2]; "

const (
	mostDouble = math.MaxFloat64
	mostSingle = math.MaxFloat32
	leastOne   = math.SmallestNonzeroFloat64
	leastHalf  = math.SmallestNonzeroFloat32 // of Singles
)

// cellsOf are the cells of the declarations.
func cellsOf(i int64, f float32, d float64) []fint.Value {
	return values(whole(i), single(f), double(d), whole(10), whole(11), whole(12), single(0.5), double(0.25), double(-8))
}

func checkEval(t *testing.T, text string, cells []fint.Value, want fint.Value, trap api.Trap) {
	t.Helper()
	u := unit(t, declarations)
	if v, x, e := fint.Eval(u, tree(t, text), cells); v != want || x != trap || e != api.OK {
		t.Errorf("Eval(%s) with %v: %v, %d, %d; want %v, %d", text, cells[:3], v, x, e, want, trap)
	}
	if holds, x, e := fint.Bool(u, tree(t, text), cells); holds || x != api.NoTrap || e != api.ErrType {
		t.Errorf("Bool(%s): %v, %d, %d", text, holds, x, e)
	}
}

func checkBool(t *testing.T, text string, cells []fint.Value, want bool, trap api.Trap) {
	t.Helper()
	u := unit(t, declarations)
	if holds, x, e := fint.Bool(u, tree(t, text), cells); holds != want || x != trap || e != api.OK {
		t.Errorf("Bool(%s) with %v: %v, %d, %d; want %v, %d", text, cells[:3], holds, x, e, want, trap)
	}
	if v, x, e := fint.Eval(u, tree(t, text), cells); v != (fint.Value{}) || x != api.NoTrap || e != api.ErrType {
		t.Errorf("Eval(%s): %v, %d, %d", text, v, x, e)
	}
}

func TestEvalOfInts(t *testing.T) {
	for _, c := range []struct {
		text string
		i    int64
		want int64
		trap api.Trap
	}{
		{"7", 0, 7, 0}, {"2147483647", 0, api.MaxInt, 0}, {"000000000000000012", 0, 12, 0},
		{"i", -5, -5, 0}, {"i", api.MinInt, api.MinInt, 0}, {"i", api.MaxInt, api.MaxInt, 0},
		{"ai[0]", 0, 10, 0}, {"ai[i]", 2, 12, 0}, {"ai[i]", 3, 0, api.TrapIndex}, {"ai[i]", -1, 0, api.TrapIndex},
		{"ai[ai[0] - 9]", 0, 11, 0}, {"ai[i]", api.MinInt, 0, api.TrapIndex}, {"ai[i]", api.MaxInt, 0, api.TrapIndex},
		{"-i", 5, -5, 0}, {"-i", -5, 5, 0}, {"-i", 0, 0, 0}, {"-i", api.MaxInt, -api.MaxInt, 0}, {"-i", api.MinInt, 0, api.TrapOver},
		{"abs(i)", -5, 5, 0}, {"abs(i)", 5, 5, 0}, {"abs(i)", 0, 0, 0}, {"abs(i)", api.MinInt + 1, api.MaxInt, 0}, {"abs(i)", api.MinInt, 0, api.TrapOver},
		{"i + 1", api.MaxInt - 1, api.MaxInt, 0}, {"i + 1", api.MaxInt, 0, api.TrapOver}, {"i + i", api.MinInt, 0, api.TrapOver},
		{"i - 1", api.MinInt + 1, api.MinInt, 0}, {"i - 1", api.MinInt, 0, api.TrapOver}, {"0 - i", api.MinInt, 0, api.TrapOver},
		{"i * 2", -1 << 30, api.MinInt, 0}, {"i * 2", 1 << 30, 0, api.TrapOver}, {"i * i", 46340, 2147395600, 0}, {"i * i", 46341, 0, api.TrapOver}, {"i * i", api.MinInt, 0, api.TrapOver},
		{"i / 2", 7, 3, 0}, {"i / 2", -7, -3, 0}, {"7 / i", -2, -3, 0}, {"-7 / i", -2, 3, 0}, {"1 / i", api.MinInt, 0, 0},
		{"i / 0", 5, 0, api.TrapZero}, {"i / 0", 0, 0, api.TrapZero}, {"1 / i", 0, 0, api.TrapZero},
		{"i / -1", api.MinInt, 0, api.TrapOver}, {"i / -1", api.MaxInt, -api.MaxInt, 0}, {"i / 1", api.MinInt, api.MinInt, 0},
		{"int(i)", api.MinInt, api.MinInt, 0},
		// From the left to the right, Kids first: the first trap is told.
		{"1 / i + ai[3]", 0, 0, api.TrapZero}, {"ai[3] + 1 / i", 0, 0, api.TrapIndex}, {"ai[1 / i]", 0, 0, api.TrapZero}, {"(2147483647 + 1) / i", 0, 0, api.TrapOver},
		{"int(1.0 / 0.0) + 1 / i", 0, 0, api.TrapInf},
	} {
		want := whole(c.want)
		if c.trap != api.NoTrap {
			want = fint.Value{}
		}
		checkEval(t, c.text, cellsOf(c.i, 0, 0), want, c.trap)
	}
}

func TestEvalOfDoubles(t *testing.T) {
	zero, none := 0.0, 0.0
	for _, c := range []struct {
		text string
		d    float64
		want float64
		trap api.Trap
	}{
		{"0.1", 0, 0.1, 0}, {"0.0", 0, 0, 0}, {"12345678901234567.8", 0, 12345678901234567.8, 0},
		{"d", -2.5, -2.5, 0}, {"ad[1]", 0, -8, 0}, {"ad[0]", 0, 0.25, 0}, {"ad[2]", 0, none, api.TrapIndex},
		{"-d", 1.5, -1.5, 0}, {"-d", zero, 0, 0}, {"-0.0", 0, 0, 0}, {"--d", zero, 0, 0}, {"abs(d)", -1.5, 1.5, 0}, {"abs(-d)", zero, 0, 0},
		{"sqrt(d)", 2, math.Sqrt2, 0}, {"sqrt(d)", zero, 0, 0}, {"sqrt(-d)", zero, 0, 0}, {"sqrt(d)", -leastOne, none, api.TrapNan}, {"sqrt(d)", mostDouble, math.Sqrt(mostDouble), 0},
		{"d + 0.1", 0.2, 0.30000000000000004, 0}, {"d + d", mostDouble, none, api.TrapInf}, {"d + -d", mostDouble, 0, 0}, {"d + 1.0", mostDouble, mostDouble, 0},
		{"-d - d", mostDouble, none, api.TrapInf}, {"d - d", 5, 0, 0}, {"d - 0.1", 0.3, 0.19999999999999998, 0},
		{"d * 10.0", mostDouble, none, api.TrapInf}, {"d * -10.0", mostDouble, none, api.TrapInf}, {"d * d", leastOne, 0, 0}, {"-d * d", leastOne, 0, 0}, {"-1.0 * d", zero, 0, 0},
		{"d / 3.0", 1, 1.0 / 3, 0}, {"d / 0.0", 1, none, api.TrapInf}, {"d / 0.0", -1, none, api.TrapInf}, {"d / 0.0", zero, none, api.TrapNan}, {"0.0 / d", -3, 0, 0}, {"-d / 2.0", leastOne, 0, 0}, {"d / 0.1", mostDouble, none, api.TrapInf},
		{"double(d)", -leastOne, -leastOne, 0}, {"double(float(0.1))", 0, float64(float32(0.1)), 0},
		{"double(2147483647)", 0, 2147483647, 0}, {"double(-2147483647 - 1)", 0, -2147483648, 0}, {"double(0)", 0, 0, 0}, {"double(-0)", 0, 0, 0},
		{"double(float(-d))", leastOne, 0, 0},
		// From the left to the right.
		{"d / d + sqrt(1.0 / d)", zero, none, api.TrapNan}, {"1.0 / d + d / d", zero, none, api.TrapInf}, {"ad[3] + d / d", zero, none, api.TrapIndex},
	} {
		want := double(c.want)
		if c.trap != api.NoTrap {
			want = fint.Value{}
		}
		checkEval(t, c.text, cellsOf(0, 0, c.d), want, c.trap)
	}
}

func TestEvalOfSingles(t *testing.T) {
	zero, none := float32(0), float32(0)
	for _, c := range []struct {
		text string
		f    float32
		want float32
		trap api.Trap
	}{
		{"f", -2.5, -2.5, 0}, {"af[0]", 0, 0.5, 0}, {"af[1]", 0, none, api.TrapIndex},
		{"-f", zero, 0, 0}, {"-f", 3, -3, 0}, {"abs(f)", -3, 3, 0}, {"sqrt(f)", 2, float32(math.Sqrt2), 0}, {"sqrt(f)", -1, none, api.TrapNan},
		{"f + f", 0.1, 0.2, 0}, {"f + f", mostSingle, none, api.TrapInf}, {"f + af[0]", 1 << 24, 1 << 24, 0}, {"f - f", 7, 0, 0},
		{"f * f", mostSingle, none, api.TrapInf}, {"-f * f", leastHalf, 0, 0}, {"f * f", 0.1, float32(0.1) * float32(0.1), 0},
		{"f / f", zero, none, api.TrapNan}, {"af[0] / f", zero, none, api.TrapInf}, {"af[0] / f", 3, float32(0.5) / 3, 0},
		{"float(f)", leastHalf, leastHalf, 0}, {"float(0.1)", 0, 0.1, 0}, {"float(16777217)", 0, 16777216, 0}, {"float(16777219)", 0, 16777220, 0}, {"float(-16777217)", 0, -16777216, 0},
		{"float(double(f) * 2.0)", mostSingle, none, api.TrapInf}, {"float(double(f) * -2.0)", mostSingle, none, api.TrapInf}, {"float(double(f) * 1.00000001)", mostSingle, mostSingle, 0},
		{"float(double(-f) / 4.0)", leastHalf, 0, 0},
	} {
		want := single(c.want)
		if c.trap != api.NoTrap {
			want = fint.Value{}
		}
		checkEval(t, c.text, cellsOf(0, c.f, 0), want, c.trap)
	}
}

func TestCastsToInt(t *testing.T) {
	for _, c := range []struct {
		d    float64
		want int64
		trap api.Trap
	}{
		{0, 0, 0}, {2.9, 2, 0}, {-2.9, -2, 0}, {leastOne, 0, 0}, {-0.999, 0, 0},
		{2147483647.9, api.MaxInt, 0}, {2147483648, 0, api.TrapConv}, {-2147483648.9, api.MinInt, 0}, {-2147483649, 0, api.TrapConv},
		{mostDouble, 0, api.TrapConv}, {-mostDouble, 0, api.TrapConv},
	} {
		want := whole(c.want)
		if c.trap != api.NoTrap {
			want = fint.Value{}
		}
		checkEval(t, "int(d)", cellsOf(0, 0, c.d), want, c.trap)
	}
	checkEval(t, "int(f)", cellsOf(0, 2147483520, 0), whole(2147483520), api.NoTrap)
	checkEval(t, "int(f)", cellsOf(0, 2147483648, 0), fint.Value{}, api.TrapConv)
	checkEval(t, "int(f)", cellsOf(0, -2147483648, 0), whole(api.MinInt), api.NoTrap)
}

func TestComparisons(t *testing.T) {
	ops := []string{"<", "<=", ">", ">=", "==", "!="}
	holds := map[int][]bool{-1: {true, true, false, false, false, true}, 0: {false, true, false, true, true, false}, 1: {false, false, true, true, false, true}}
	for _, c := range []struct {
		a, b  string
		order int
	}{
		{"1", "2", -1}, {"2", "1", 1}, {"i", "3", 0}, {"-1", "1", -1}, {"-1", "-2", 1}, {"-2147483647", "2147483647", -1},
		{"0.5", "0.25", 1}, {"-0.5", "-0.25", -1}, {"d", "1.5", 0}, {"-0.0", "0.0", 0}, {"-0.1", "0.1", -1}, {"0.1", "-0.1", 1},
		{"f", "float(2.5)", 0}, {"f", "-f", 1}, {"-f", "-f - f", 1}, {"double(f)", "2.6", -1},
	} {
		for at, op := range ops {
			checkBool(t, c.a+" "+op+" "+c.b, cellsOf(3, 2.5, 1.5), holds[c.order][at], api.NoTrap)
			checkBool(t, "!("+c.a+" "+op+" "+c.b+")", cellsOf(3, 2.5, 1.5), !holds[c.order][at], api.NoTrap)
		}
	}
}

// And and Or do not ask the second one, where the first one tells all.
func TestAndOr(t *testing.T) {
	const yes, no, trap = "i == 0", "i != 0", "1 / i == 1"
	for _, c := range []struct {
		text string
		want bool
		trap api.Trap
	}{
		{yes + " && " + yes, true, 0}, {yes + " && " + no, false, 0}, {no + " && " + yes, false, 0}, {no + " && " + no, false, 0},
		{yes + " || " + yes, true, 0}, {yes + " || " + no, true, 0}, {no + " || " + yes, true, 0}, {no + " || " + no, false, 0},
		{no + " && " + trap, false, 0}, {yes + " && " + trap, false, api.TrapZero}, {trap + " && " + no, false, api.TrapZero},
		{yes + " || " + trap, true, 0}, {no + " || " + trap, false, api.TrapZero}, {trap + " || " + yes, false, api.TrapZero},
		{"!(" + trap + ")", false, api.TrapZero}, {"!(" + no + " && " + trap + ")", true, 0}, {"!(" + yes + " || " + trap + ")", false, 0},
		{no + " && " + trap + " || " + yes, true, 0}, {yes + " || " + trap + " && " + trap, true, 0}, {"(" + yes + " || " + trap + ") && (" + no + " || " + trap + ")", false, api.TrapZero},
	} {
		checkBool(t, c.text, cellsOf(0, 0, 0), c.want, c.trap)
	}
	checkBool(t, "1 / i < ai[3]", cellsOf(0, 0, 0), false, api.TrapZero)
	checkBool(t, "ai[3] < 1 / i", cellsOf(0, 0, 0), false, api.TrapIndex)
	checkBool(t, "d / d == 1.0 / d", cellsOf(0, 0, 0), false, api.TrapNan)
}

// Wrong cells: ErrForm, ahead of what is wrong with the expression.
func TestWrongCells(t *testing.T) {
	u := unit(t, declarations)
	good := cellsOf(1, 2, 3)
	with := func(at int, v fint.Value) []fint.Value {
		l := slices.Clone(good)
		l[at] = v
		return l
	}
	inf := math.Inf(1)
	for name, cells := range map[string][]fint.Value{
		"none": nil, "too few": good[:8], "too many": append(slices.Clone(good), whole(0)), "empty": {},
		"a zero value": with(0, fint.Value{}), "a double for an int": with(0, double(1)), "an int for a float": with(1, whole(1)),
		"a double for a float": with(1, double(1)), "a float for a double": with(2, single(1)), "no type": with(3, fint.Value{Type: 7}),
		"an int above": with(0, whole(api.MaxInt+1)), "an int below": with(0, whole(api.MinInt-1)), "an int with bits": with(5, fint.Value{Type: api.IntType, Bits: 1}),
		"an infinite double": with(2, double(inf)), "an infinite double below": with(8, double(-inf)), "no number": with(2, double(math.NaN())), "-0": with(2, doubleOf(minusZero)),
		"an infinite float": with(1, single(float32(inf))), "a float that is no number": with(1, singleOf(0x7fc00001)), "-0 of a float": with(1, singleOf(minusSingle)),
		"bits that are none of a float": with(1, singleOf(1<<32)), "bits of -0 of a double": with(6, singleOf(minusZero)),
		"a float with an int": with(1, fint.Value{Type: api.FloatType, Int: 1}), "a double with an int": with(8, fint.Value{Type: api.DoubleType, Int: -1}),
		"turned about": with(8, good[0]),
	} {
		for _, text := range []string{"1", "zz", "i + 1.0", "i == 1", "1 / 0"} {
			if v, x, e := fint.Eval(u, tree(t, text), cells); v != (fint.Value{}) || x != api.NoTrap || e != api.ErrForm {
				t.Errorf("%s: Eval(%s): %v, %d, %d", name, text, v, x, e)
			}
			if holds, x, e := fint.Bool(u, tree(t, text), cells); holds || x != api.NoTrap || e != api.ErrForm {
				t.Errorf("%s: Bool(%s): %v, %d, %d", name, text, holds, x, e)
			}
		}
	}
	// The ends of what is right.
	for _, cells := range [][]fint.Value{with(0, whole(api.MaxInt)), with(0, whole(api.MinInt)), with(2, double(-mostDouble)), with(2, double(leastOne)), with(1, single(mostSingle)), with(1, single(-leastHalf)), with(2, double(0))} {
		if _, _, e := fint.Eval(u, tree(t, "1"), cells); e != api.OK {
			t.Errorf("%v: %d", cells, e)
		}
	}
	// A program without variables has no cells.
	for _, cells := range [][]fint.Value{nil, {}} {
		if v, x, e := fint.Eval(unit(t, ""), tree(t, "1 + 2"), cells); v != whole(3) || x != api.NoTrap || e != api.OK {
			t.Error(v, x, e)
		}
	}
	if _, _, e := fint.Eval(unit(t, ""), tree(t, "1"), values(whole(0))); e != api.ErrForm {
		t.Error(e)
	}
}

// Wrong expressions: fcheck's errors, then ErrType of what is asked for the wrong thing.
func TestWrongExpressions(t *testing.T) {
	u := unit(t, declarations)
	one := api.Expr{Op: api.Const, Text: "1"}
	itself := api.Expr{Op: api.Neg, Kids: make([]api.Expr, 1)}
	itself.Kids[0] = itself
	deep := one
	for range api.MaxDeep {
		deep = api.Expr{Op: api.Neg, Kids: []api.Expr{deep}}
	}
	for name, c := range map[string]struct {
		e    api.Expr
		want api.Errno
	}{
		"none": {api.Expr{}, api.ErrForm}, "no op": {api.Expr{Op: 99, Kids: []api.Expr{one}}, api.ErrForm}, "an op below 0": {api.Expr{Op: -1}, api.ErrForm},
		"no Kids": {api.Expr{Op: api.Add}, api.ErrForm}, "one Kid": {api.Expr{Op: api.Add, Kids: []api.Expr{one}}, api.ErrForm}, "a name that is none": {api.Expr{Op: api.Var, Text: "int"}, api.ErrForm},
		"a Cast to nothing": {api.Expr{Op: api.Cast, Kids: []api.Expr{one}}, api.ErrForm}, "no digits": {api.Expr{Op: api.Const}, api.ErrForm},
		"itself": {itself, api.ErrForm}, "too deep": {deep, api.ErrForm},
		"not declared": {tree(t, "zz"), api.ErrName}, "an array": {tree(t, "ai"), api.ErrType}, "no array": {tree(t, "i[0]"), api.ErrType}, "a float as index": {tree(t, "ai[0.0]"), api.ErrType},
		"two types": {tree(t, "i + d"), api.ErrType}, "a root of an int": {tree(t, "sqrt(i)"), api.ErrType}, "too many digits": {tree(t, "1234567890123456789"), api.ErrDigits}, "too great": {tree(t, "2147483648"), api.ErrRange},
		"a truth added": {tree(t, "(i < 1) + 1"), api.ErrType}, "not of an int": {tree(t, "!i"), api.ErrType}, "truths of two types": {tree(t, "i == f"), api.ErrType},
		"wrong where it is not asked": {tree(t, "0 == 0 || zz == 1"), api.ErrName},
	} {
		if v, x, e := fint.Eval(u, c.e, cellsOf(0, 0, 0)); v != (fint.Value{}) || x != api.NoTrap || e != c.want {
			t.Errorf("%s: Eval: %v, %d, %d; want %d", name, v, x, e, c.want)
		}
		if holds, x, e := fint.Bool(u, c.e, cellsOf(0, 0, 0)); holds || x != api.NoTrap || e != c.want {
			t.Errorf("%s: Bool: %v, %d, %d; want %d", name, holds, x, e, c.want)
		}
		if _, x, e := fint.Eval(nil, c.e, cellsOf(0, 0, 0)); x != api.NoTrap || e != api.ErrNil {
			t.Errorf("%s: Eval of nil: %d, %d", name, x, e)
		}
		if _, x, e := fint.Bool(nil, c.e, nil); x != api.NoTrap || e != api.ErrNil {
			t.Errorf("%s: Bool of nil: %d, %d", name, x, e)
		}
	}
	for _, text := range []string{"1", "1 / 0", "d"} {
		if holds, x, e := fint.Bool(u, tree(t, text), cellsOf(0, 0, 0)); holds || x != api.NoTrap || e != api.ErrType {
			t.Errorf("Bool(%s): %v, %d, %d", text, holds, x, e)
		}
	}
	for _, text := range []string{"i == 0", "1 / 0 == 1", "!(d < 1.0)", "i == 0 && i == 1", "i == 0 || i == 1"} {
		if v, x, e := fint.Eval(u, tree(t, text), cellsOf(0, 0, 0)); v != (fint.Value{}) || x != api.NoTrap || e != api.ErrType {
			t.Errorf("Eval(%s): %v, %d, %d", text, v, x, e)
		}
	}
}
