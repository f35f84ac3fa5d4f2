package fint_test

import (
	"math"
	"slices"
	"testing"

	"plumbline/api"
	"plumbline/fint"
)

// checkRead reads one value, and tells whether it fits.
func checkRead(t *testing.T, text string, v fint.Value, fits bool) {
	t.Helper()
	if !fits {
		checkError(t, text, values(v), 10, api.ErrScript)
		return
	}
	r, e := fint.Run(unit(t, text), values(v), 10)
	if e != api.OK || r.Trap != api.NoTrap || r.Steps != 1 || !slices.Equal(r.Cells, values(v)) {
		t.Errorf("%s, %v: %v, %d", text, v, r, e)
	}
}

func TestReadsOfInts(t *testing.T) {
	for n, fits := range map[int64]bool{-3: false, -2: true, -1: true, 0: true, 5: true, 6: false, math.MinInt64: false, math.MaxInt64: false} {
		checkRead(t, "int i; read i in [-2, 5];", whole(n), fits)
	}
	for n, fits := range map[int64]bool{-2147483647: true, -2147483648: false, 2147483647: true, 2147483648: false} {
		checkRead(t, "int i; read i in [-2147483647, 2147483647];", whole(n), fits)
	}
	for n, fits := range map[int64]bool{3: false, 4: true, 5: false} {
		checkRead(t, "int i; read i in [4, 4];", whole(n), fits)
	}
	const text = "int i; read i in [-5, 5];"
	for _, v := range []fint.Value{
		{}, {Int: 1}, {Type: api.FloatType}, {Type: api.DoubleType}, {Type: -1}, {Type: 4},
		{Type: api.IntType, Bits: 1}, {Type: api.IntType, Int: 1, Bits: minusZero},
	} {
		checkRead(t, text, v, false)
	}
}

func TestReadsOfDoubles(t *testing.T) {
	const text = "double x; read x in [-0.1, 1.5];"
	for x, fits := range map[float64]bool{
		-0.1: true, 0: true, 0.3: true, 1.5: true, 5e-324: true, -5e-324: true, 1.6: false, -0.2: false,
		math.Nextafter(-0.1, -1): false, math.Nextafter(-0.1, 1): true, math.Nextafter(1.5, 2): false, math.Nextafter(1.5, 1): true,
		math.MaxFloat64: false, math.Inf(1): false, math.Inf(-1): false,
	} {
		checkRead(t, text, double(x), fits)
	}
	for _, v := range []fint.Value{
		{}, whole(1), single(1), {Type: api.DoubleType, Int: 1}, doubleOf(minusZero), double(math.NaN()),
		doubleOf(0xfff8000000000000), {Type: 4}, {Type: -1},
	} {
		checkRead(t, text, v, false)
	}
	// A bound that is -0 is 0.
	for _, bounds := range []string{"[-0.0, 0.0]", "[0.0, -0.0]", "[-0.0, -0.0]", "[0.0, 0.0]"} {
		checkRead(t, "double x; read x in "+bounds+";", double(0), true)
		checkRead(t, "double x; read x in "+bounds+";", double(5e-324), false)
		checkRead(t, "double x; read x in "+bounds+";", double(-5e-324), false)
		checkRead(t, "double x; read x in "+bounds+";", doubleOf(minusZero), false)
	}
}

// The bounds are taken as Singles: 0.1 as a Single lies above the true 0.1, and that is what is held against the value.
func TestReadsOfSingles(t *testing.T) {
	tenth := float32(0.1)
	for x, fits := range map[float32]bool{
		tenth: true, -tenth: true, 0: true, math.Nextafter32(tenth, 0): true,
		math.Nextafter32(tenth, 1): false, math.Nextafter32(-tenth, -1): false, float32(math.Inf(1)): false,
	} {
		checkRead(t, "float f; read f in [-0.1, 0.1];", single(x), fits)
	}
	// 16777217 is no Single, but halfway between two: it is 16777216 as one.
	checkRead(t, "float f; read f in [0.0, 16777217.0];", single(16777216), true)
	checkRead(t, "float f; read f in [0.0, 16777217.0];", single(16777218), false)
	checkRead(t, "float f; read f in [16777217.0, 20000000.0];", single(16777216), true)
	checkRead(t, "float f; read f in [-0.0000000000000001, 0.0];", singleOf(0xa4e69595), true)
	checkRead(t, "float f; read f in [-0.0000000000000001, 0.0];", singleOf(0xa4e69596), false)
	for _, v := range []fint.Value{
		{}, whole(0), double(0), {Type: api.FloatType, Int: 1}, singleOf(minusSingle), singleOf(0x7fc00000),
		singleOf(1 << 32), singleOf(minusZero), singleOf(0x3dcccccd | 1<<40),
	} {
		checkRead(t, "float f; read f in [-0.1, 0.1];", v, false)
	}
}

// A script that is too short, or longer than what is read.
func TestLengthOfScripts(t *testing.T) {
	const text = "int i; double x; read i in [0, 9]; while (i > 0) { read x in [0.0, 1.0]; i = i - 1; }"
	script := values(whole(2), double(0.5), double(0.25))
	for n := range script {
		checkError(t, text, script[:n:n], 100, api.ErrScript)
	}
	r, e := fint.Run(unit(t, text), script, 100)
	if e != api.OK || r.Steps != 8 || !slices.Equal(r.Cells, values(whole(0), double(0.25))) {
		t.Error(r, e)
	}
	// What lies behind the end of a list is none of it.
	checkError(t, text, script[:2], 100, api.ErrScript)
	// The next value counts, not one that would fit behind it.
	checkError(t, text, values(whole(2), double(2), double(0.5), double(0.5)), 100, api.ErrScript)
	checkError(t, text, values(double(0.5), whole(2), double(0.5), double(0.5)), 100, api.ErrScript)
	// A Read that is not come to needs nothing.
	checkRun(t, "int i; if (i == 1) { read i in [0, 1]; }", nil, fint.Result{Steps: 1, Cells: values(whole(0)), Seen: []fint.Seen{seen(0, whole(0))}})
}

// What comes first ends a run: a step too much, a value that does not fit, or a trap.
func TestWhatEndsARunFirst(t *testing.T) {
	checkError(t, "int i; i = 1; read i in [0, 1];", nil, 1, api.ErrSteps)
	checkError(t, "int i; i = 1; read i in [0, 1];", nil, 2, api.ErrScript)
	checkError(t, "int i; read i in [0, 1]; while (0 == 0) { }", nil, 10, api.ErrScript)
	checkError(t, "int i; read i in [0, 1]; i = 1 / 0;", nil, 10, api.ErrScript)
	if r, e := fint.Run(unit(t, "int i; i = 1 / 0; read i in [0, 1];"), nil, 1); e != api.OK || r.Trap != api.TrapZero {
		t.Error(r, e)
	}
}

// P7.4: values that the program does not read play no part, whatever they are.
func TestValuesThatAreNotRead(t *testing.T) {
	u := unit(t, "int i; read i in [0, 9]; i = 9 / i;")
	for n := range int64(10) {
		want, e := fint.Run(u, values(whole(n)), 10)
		if e != api.OK {
			t.Fatal(e)
		}
		for _, more := range [][]fint.Value{{whole(1)}, {{}}, {double(math.NaN())}, {{Type: 9, Int: -1, Bits: 1}, whole(3)}} {
			if r, e := fint.Run(u, append(values(whole(n)), more...), 10); e != api.OK || !alike(r, want) {
				t.Errorf("%v, %d; want %v", r, e, want)
			}
		}
	}
}
