package fint_test

import (
	"math"
	"strings"
	"testing"

	"plumbline/api"
	"plumbline/fint"
)

// checkRun runs a text, and holds all of the result against what is wanted.
func checkRun(t *testing.T, text string, script []fint.Value, want fint.Result) {
	t.Helper()
	r, e := fint.Run(unit(t, text), script, want.Steps)
	if e != api.OK || !alike(r, want) {
		t.Errorf("%s:\n%v, %d; want\n%v", text, r, e, want)
	}
	if want.Steps > 0 {
		checkError(t, text, script, want.Steps-1, api.ErrSteps)
	}
}

func checkError(t *testing.T, text string, script []fint.Value, steps int, want api.Errno) {
	t.Helper()
	if r, e := fint.Run(unit(t, text), script, steps); e != want || !nothing(r) {
		t.Errorf("%s, %v, %d: %v, %d; want %d", text, script, steps, r, e, want)
	}
}

func TestExamples(t *testing.T) {
	r, e := fint.Run(unit(t, "int i; while (i < 3) { i = i + 1; }"), nil, 100)
	if e != api.OK || r.Steps != 7 || r.Trap != api.NoTrap || r.Cells[0] != whole(3) {
		t.Error(r, e)
	}
	r, e = fint.Run(unit(t, "double x; x = 1.0 / x;"), nil, 100)
	if e != api.OK || r.Trap != api.TrapInf || r.Point != 0 {
		t.Error(r, e)
	}
}

func TestRunOfNil(t *testing.T) {
	for _, steps := range []int{math.MinInt, -1, 0, 1, api.MaxSteps, api.MaxSteps + 1, math.MaxInt} {
		for _, script := range [][]fint.Value{nil, {}, {whole(1)}} {
			if r, e := fint.Run(nil, script, steps); e != api.ErrNil || !nothing(r) {
				t.Error(r, e)
			}
		}
	}
}

func TestStepsThatMayNotBe(t *testing.T) {
	for _, steps := range []int{math.MinInt, -2, -1, api.MaxSteps + 1, math.MaxInt} {
		checkError(t, "", nil, steps, api.ErrRange)
		checkError(t, "int i; i = 1;", nil, steps, api.ErrRange)
		checkError(t, "int i; read i in [0, 1];", nil, steps, api.ErrRange)
	}
	for _, steps := range []int{0, 1, api.MaxSteps} {
		if r, e := fint.Run(unit(t, ""), nil, steps); e != api.OK || !nothing(r) {
			t.Error(r, e)
		}
		r, e := fint.Run(unit(t, "int i; float f[2];"), nil, steps)
		if e != api.OK || !alike(r, fint.Result{Cells: values(whole(0), single(0), single(0))}) {
			t.Error(r, e)
		}
	}
	checkError(t, "int i; i = 1;", nil, 0, api.ErrSteps)
	checkError(t, "int i; read i in [0, 1];", nil, 0, api.ErrSteps)
	checkError(t, "int i; i = 1 / 0;", nil, 0, api.ErrSteps)
}

// A loop of n rounds takes 2 n and 1 steps.
func TestMostSteps(t *testing.T) {
	const loop = "while (i < 32767) { i = i + 1; }"
	u := unit(t, "int i; "+loop+" i = -1;")
	r, e := fint.Run(u, nil, api.MaxSteps)
	if e != api.OK || r.Steps != api.MaxSteps || len(r.Seen) != api.MaxSteps || r.Cells[0] != whole(-1) {
		t.Error(e, r.Steps, len(r.Seen))
	}
	for at, s := range r.Seen {
		want := seen(api.Point(at%2), whole(int64(at/2)))
		if at == api.MaxSteps-1 {
			want.Point = 2
		}
		if !alikeSeen(s, want) {
			t.Fatalf("step %d: %v; want %v", at, s, want)
		}
	}
	checkError(t, "int i; "+loop+" i = -1;", nil, api.MaxSteps-1, api.ErrSteps)
	checkError(t, "int i; "+loop+" i = -1; i = -2;", nil, api.MaxSteps, api.ErrSteps)
}

// What never ends is told within the steps, also where much would be seen.
func TestWhatNeverEnds(t *testing.T) {
	for _, steps := range []int{0, 1, 2, 1000, api.MaxSteps} {
		checkError(t, "while (1 < 2) { }", nil, steps, api.ErrSteps)
		checkError(t, "int i; while (i == 0) { i = 0; while (i == 0) { if (i != 0) { i = 1; } } }", nil, steps, api.ErrSteps)
	}
	var many strings.Builder
	for c := range byte(api.MaxVars) {
		many.WriteString("double " + string('a'+rune(c)) + "[64]; ")
	}
	checkError(t, many.String()+"while (0 == 0) { a[0] = 1.0; }", nil, api.MaxSteps, api.ErrSteps)
}

// Each kind of statement, and what is seen ahead of each step.
func TestStatements(t *testing.T) {
	checkRun(t, "", nil, fint.Result{})
	checkRun(t, "int i; double x; i = 7; x = 1.5; i = i + i;", nil, fint.Result{
		Steps: 3, Cells: values(whole(14), double(1.5)),
		Seen: []fint.Seen{seen(0, whole(0), double(0)), seen(1, whole(7), double(0)), seen(2, whole(7), double(1.5))},
	})
	checkRun(t, "float f; int a[3]; double x; a[1 + 1] = 5; a[a[2] - 5] = a[2] * 2; x = double(a[0]); f = float(x);", nil, fint.Result{
		Steps: 4, Cells: values(single(10), whole(10), whole(0), whole(5), double(10)),
		Seen: []fint.Seen{
			seen(0, single(0), whole(0), whole(0), whole(0), double(0)),
			seen(1, single(0), whole(0), whole(0), whole(5), double(0)),
			seen(2, single(0), whole(10), whole(0), whole(5), double(0)),
			seen(3, single(0), whole(10), whole(0), whole(5), double(10)),
		},
	})
	checkRun(t, "int i; float f; read i in [-3, 3]; read f in [0.0, 1.0]; read i in [7, 7];", values(whole(-3), single(0.25), whole(7)), fint.Result{
		Steps: 3, Cells: values(whole(7), single(0.25)),
		Seen: []fint.Seen{seen(0, whole(0), single(0)), seen(1, whole(-3), single(0)), seen(2, whole(-3), single(0.25))},
	})
	checkRun(t, "while (1 > 2) { }", nil, fint.Result{Steps: 1, Seen: []fint.Seen{seen(0)}})
	checkRun(t, "int i; while (i < 2) { i = i + 1; }", nil, fint.Result{
		Steps: 5, Cells: values(whole(2)),
		Seen: []fint.Seen{seen(0, whole(0)), seen(1, whole(0)), seen(0, whole(1)), seen(1, whole(1)), seen(0, whole(2))},
	})
}

// Points go on behind what stands in an if, also where it is not come to.
func TestChoices(t *testing.T) {
	const text = "int i; int j; read i in [0, 2]; if (i == 0) { j = 1; if (j == 1) { j = 2; } } else { if (i == 1) { } else { j = 4; } j = j + 1; } i = 9;"
	for n, want := range []fint.Result{
		{Steps: 6, Cells: values(whole(9), whole(2)), Seen: []fint.Seen{
			seen(0, whole(0), whole(0)), seen(1, whole(0), whole(0)), seen(2, whole(0), whole(0)),
			seen(3, whole(0), whole(1)), seen(4, whole(0), whole(1)), seen(8, whole(0), whole(2)),
		}},
		{Steps: 5, Cells: values(whole(9), whole(1)), Seen: []fint.Seen{
			seen(0, whole(0), whole(0)), seen(1, whole(1), whole(0)), seen(5, whole(1), whole(0)),
			seen(7, whole(1), whole(0)), seen(8, whole(1), whole(1)),
		}},
		{Steps: 6, Cells: values(whole(9), whole(5)), Seen: []fint.Seen{
			seen(0, whole(0), whole(0)), seen(1, whole(2), whole(0)), seen(5, whole(2), whole(0)),
			seen(6, whole(2), whole(0)), seen(7, whole(2), whole(4)), seen(8, whole(2), whole(5)),
		}},
	} {
		checkRun(t, text, values(whole(int64(n))), want)
	}
	checkRun(t, "int i; if (i != 0) { i = 1; }", nil, fint.Result{Steps: 1, Cells: values(whole(0)), Seen: []fint.Seen{seen(0, whole(0))}})
}

func TestLoopsInLoops(t *testing.T) {
	const text = "int i; int j; int n; while (i < 3) { j = 0; while (j < i) { j = j + 1; n = n + 1; } i = i + 1; } n = n * 10;"
	r, e := fint.Run(unit(t, text), nil, 100)
	var at strings.Builder
	for _, s := range r.Seen {
		at.WriteByte('0' + byte(s.Point))
	}
	const want = "0125" + "0123425" + "0123423425" + "06"
	if e != api.OK || at.String() != want || r.Cells[2] != whole(30) || r.Steps != len(want) {
		t.Error(e, at.String(), r.Cells, r.Steps)
	}
}

// Each trap: at its point, with the cells ahead of its statement, and nothing behind it is done.
func TestTraps(t *testing.T) {
	for _, c := range []struct {
		text string
		trap api.Trap
	}{
		{"x = x / x;", api.TrapNan},
		{"x = 0.0 / -x;", api.TrapNan},
		{"x = sqrt(-1.0);", api.TrapNan},
		{"f = sqrt(float(-0.5));", api.TrapNan},
		{"x = 1.0 / x;", api.TrapInf},
		{"x = -1.0 / x;", api.TrapInf},
		{"f = float(1.0) / f;", api.TrapInf},
		{"x = big * big;", api.TrapInf},
		{"x = -big * big;", api.TrapInf},
		{"f = float(big);", api.TrapInf},
		{"f = float(-big);", api.TrapInf},
		{"i = int(2147483648.0);", api.TrapConv},
		{"i = int(-2147483649.0);", api.TrapConv},
		{"i = int(big);", api.TrapConv},
		{"i = int(float(3000000000.0));", api.TrapConv},
		{"i = 2147483647 + 1;", api.TrapOver},
		{"i = -2147483647 - 2;", api.TrapOver},
		{"i = 65536 * -65537;", api.TrapOver},
		{"i = 2147483647 * 2147483647;", api.TrapOver},
		{"i = -(-2147483647 - 1);", api.TrapOver},
		{"i = abs(-2147483647 - 1);", api.TrapOver},
		{"i = (-2147483647 - 1) / -1;", api.TrapOver},
		{"i = 1 / i;", api.TrapZero},
		{"i = 0 / 0;", api.TrapZero},
		{"i = a[2];", api.TrapIndex},
		{"i = a[-1];", api.TrapIndex},
		{"a[2] = 1;", api.TrapIndex},
		{"a[-1] = 1;", api.TrapIndex},
		{"a[2147483647] = 1;", api.TrapIndex},
		{"a[-2147483647 - 1] = 1;", api.TrapIndex},
		{"a[1 / i] = 1;", api.TrapZero},
		{"a[a[2]] = 1;", api.TrapIndex},
		{"if (1 / i == 0) { i = 1; } else { i = 2; }", api.TrapZero},
		{"while (1.0 / x > 0.0) { i = 1; }", api.TrapInf},
	} {
		const decls = "int i; float f; double x; double big; int a[2]; "
		const first = "big = 10000000000000000.0; big = big * big; big = big * big; big = big * big; big = big * big; a[1] = 3; "
		r, e := fint.Run(unit(t, decls+first+c.text+" i = 77;"), nil, 100)
		cells := values(whole(0), single(0), double(0), double(big()), whole(0), whole(3))
		if e != api.OK || r.Trap != c.trap || r.Point != 6 || r.Steps != 7 || !alikeSeen(seen(6, r.Cells...), seen(6, cells...)) || !alikeSeen(r.Seen[6], seen(6, cells...)) || len(r.Seen) != 7 {
			t.Errorf("%s: %v, %d; want %d", c.text, r, e, c.trap)
		}
	}
}

// big is what the programs of TestTraps work out.
func big() float64 {
	x := 1e16
	for range 4 {
		x = x * x
	}
	return x
}

// A trap within blocks has the point of its own statement; behind a second round the cells are those of then.
func TestTrapsInBlocks(t *testing.T) {
	r, e := fint.Run(unit(t, "int i; int n; i = 2; while (i > -5) { if (i < 5) { n = 6 / i; i = i - 1; } } n = 1;"), nil, 100)
	if e != api.OK || r.Trap != api.TrapZero || r.Point != 3 || r.Steps != 12 || !alikeSeen(r.Seen[11], seen(3, whole(0), whole(6))) || r.Cells[0] != whole(0) || r.Cells[1] != whole(6) {
		t.Error(r, e)
	}
	// The steps may be just enough for the one that traps.
	if _, e := fint.Run(unit(t, "int i; i = 1; i = 1 / 0; i = 2;"), nil, 2); e != api.OK {
		t.Error(e)
	}
	checkError(t, "int i; i = 1; i = 1 / 0; i = 2;", nil, 1, api.ErrSteps)
}

// The index, then the value: what the index comes to is told first, also that it is no cell's.
func TestIndexAheadOfValue(t *testing.T) {
	for text, want := range map[string]api.Trap{
		"int i; int a[2]; a[2] = 1 / i;":                 api.TrapIndex,
		"int i; int a[2]; a[-1] = 2147483647 + 1;":       api.TrapIndex,
		"int i; int a[2]; a[1 / i] = a[2];":              api.TrapZero,
		"int i; double a[2]; a[1] = 1.0 / 0.0;":          api.TrapInf,
		"int i; int a[2]; a[2147483647 + 1] = 1 / i;":    api.TrapOver,
		"int i; double a[2]; a[int(0.0 / 0.0)] = a[-1];": api.TrapNan,
	} {
		if r, e := fint.Run(unit(t, text), nil, 10); e != api.OK || r.Trap != want || r.Point != 0 {
			t.Errorf("%s: %d, %d; want %d", text, r.Trap, e, want)
		}
	}
	// The value is asked ahead of the storing, and the index ahead of the value.
	checkRun(t, "int a[2]; a[a[0]] = a[0] + 1;", nil, fint.Result{Steps: 1, Cells: values(whole(1), whole(0)), Seen: []fint.Seen{seen(0, whole(0), whole(0))}})
}
