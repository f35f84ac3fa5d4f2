package analyze_test

import (
	"math"
	"slices"
	"strings"
	"testing"

	"plumbline/analyze"
	"plumbline/api"
	"plumbline/fint"
)

// The examples of the chapter, and those of DOC.md.
func TestExamples(t *testing.T) {
	if !analyze.Safe([]byte("double x; read x in [0.0, 1.0]; x = 1.0 / (x + 1.0);"), usual) {
		t.Error("1.0 / (x + 1.0) is not safe")
	}
	text := "double x; read x in [0.0, 1.0]; x = 1.0 / x;"
	if analyze.Safe([]byte(text), usual) {
		t.Error("1.0 / x is safe")
	}
	if s := analyzed(t, text, usual); !slices.Equal(readBack(t, s).alarms, []api.Alarm{{Point: 1, Trap: api.TrapInf}}) {
		t.Error(s)
	}
	if s := analyzed(t, "int i; i = 1;", usual); s != "point 0: i=0..0\nend: i=1..1\nsafe\n" {
		t.Error(s)
	}
	if trap, at, e := analyze.Trial([]byte(text), []fint.Value{doubleValue(0)}, 2); trap != api.TrapInf || at != 1 || e != api.OK {
		t.Error(trap, at, e)
	}
	if trap, at, e := analyze.Trial([]byte(text), []fint.Value{doubleValue(0.5)}, 2); trap != api.NoTrap || at != 0 || e != api.OK {
		t.Error(trap, at, e)
	}
}

// P16.1: whole reports, of a loop, an if, arrays, all types, and what is not reached.
func TestReports(t *testing.T) {
	for _, c := range []struct {
		text    string
		options api.Options
		want    string
	}{
		{"", usual, "end: \nsafe\n"},
		{"", api.Options{}, "end: \ntired\nsafe\n"},
		{" \t\r\n", usual, "end: \nsafe\n"},
		{"if (1 < 0) { } else { }", usual, "point 0: \nend: \nsafe\n"},
		{"int i; while (i < 10) { i = i + 1; }", api.Options{Thresholds: []int64{10}, Budget: 1000}, "point 0: i=0..10\npoint 1: i=0..9\nend: i=10..10\nsafe\n"},
		{"int i; while (i < 10) { i = i + 1; }", api.Options{Delay: 10, Budget: 1000}, "point 0: i=0..10\npoint 1: i=0..9\nend: i=10..10\nsafe\n"},
		{"int i; while (i < 10) { i = i + 1; }", api.Options{Budget: 1000}, "point 0: i=0..2147483647\npoint 1: i=0..9\nend: i=10..2147483647\nsafe\n"},
		{"int i; while (i < 10) { i = i + 1; }", api.Options{}, "point 0: i=-2147483648..2147483647\npoint 1: i=-2147483648..9\nend: i=10..2147483647\ntired\nsafe\n"},
		{"float f; int a[2]; read f in [-0.5, 1.5]; if (f < float(0.0)) { a[2] = 1; } else { a[1] = -7; }", usual, "point 0: f=00000000..00000000 a=0..0\npoint 1: f=bf000000..3fc00000 a=0..0\npoint 2: f=bf000000..80000001 a=0..0\npoint 3: f=00000000..3fc00000 a=0..0\nend: f=00000000..3fc00000 a=-7..0\nalarm 2 index\nunsafe\n"},
		{"int i; read i in [-1, 1]; i = 10 / i; i = 1 / 0; i = 2;", usual, "point 0: i=0..0\npoint 1: i=-1..1\npoint 2: i=-10..10\npoint 3: unreached\nend: unreached\nalarm 1 zero\nalarm 2 zero\nunsafe\n"},
		{"double d; int i; d = 3000000000.0; i = int(d);", usual, "point 0: d=0000000000000000..0000000000000000 i=0..0\npoint 1: d=41e65a0bc0000000..41e65a0bc0000000 i=0..0\nend: unreached\nalarm 1 conv\nunsafe\n"},
		// That of README.md.
		{"int i; double x; read i in [0, 3]; x = 1.0 / double(i);", usual, "point 0: i=0..0 x=0000000000000000..0000000000000000\npoint 1: i=0..3 x=0000000000000000..0000000000000000\nend: i=0..3 x=3fd5555555555555..7fefffffffffffff\nalarm 1 inf\nunsafe\n"},
		{"double d; d = sqrt(-1.0);", api.Options{}, "point 0: d=0000000000000000..0000000000000000\nend: unreached\nalarm 0 nan\ntired\nunsafe\n"},
	} {
		if s := analyzed(t, c.text, c.options); s != c.want {
			t.Errorf("%s %v:\n%swant\n%s", c.text, c.options, s, c.want)
		}
		if safe := analyze.Safe([]byte(c.text), c.options); safe != strings.HasSuffix(c.want, "\nsafe\n") {
			t.Errorf("%s %v: Safe is %v", c.text, c.options, safe)
		}
	}
}

// wrong are texts that are no programs, and the errors of fcheck.Read: the first of several.
var wrong = []struct {
	text string
	want api.Errno
}{
	// Too long, whatever it says.
	{strings.Repeat(" ", api.MaxText+1), api.ErrLimit}, {strings.Repeat("#", api.MaxText+1), api.ErrLimit}, {strings.Repeat("\x00", 1<<20), api.ErrLimit}, {"int i; i = 1;" + strings.Repeat("\n", api.MaxText), api.ErrLimit},
	// Characters.
	{"#", api.ErrChar}, {"\x00", api.ErrChar}, {"\xff\xfe", api.ErrChar}, {"int i; i = 1; \u00a0", api.ErrChar}, {"int i; i = 1 & 2;", api.ErrChar}, {"int i; i = 1.;", api.ErrChar}, {"_i", api.ErrChar}, {"int abcdefghijklmnopq;", api.ErrChar}, {"int i; int i; i = 1.5; i # 1", api.ErrChar}, {"int i; i = 1;\x00", api.ErrChar},
	// Too many tokens.
	{strings.Repeat(";", api.MaxTokens+1), api.ErrLimit}, {strings.Repeat(";", api.MaxTokens) + "#", api.ErrChar},
	// Form.
	{"int i; i", api.ErrForm}, {";", api.ErrForm}, {"int i", api.ErrForm}, {"int int;", api.ErrForm}, {"i = 1; int i;", api.ErrForm}, {"int i; i = ;", api.ErrForm}, {"int i; if (i) { i = 1;", api.ErrForm}, {"int i; int i; x = 1.5", api.ErrForm}, {"int a[0]; a", api.ErrForm}, {strings.Repeat("int a[0];", 30) + ")", api.ErrForm},
	// Limits of the program.
	{"int a[0];", api.ErrLimit}, {"int a[65];", api.ErrLimit}, {"int a[99999999999999999999999999];", api.ErrLimit}, {strings.Repeat("int i;", api.MaxVars+1), api.ErrLimit}, {"int i;" + strings.Repeat("i=1;", api.MaxPoints+1), api.ErrLimit}, {"int i; i = " + strings.Repeat("(", 25) + "1" + strings.Repeat(")", 25) + ";", api.ErrLimit}, {"int i; i = " + strings.Repeat("-", 24) + "1;", api.ErrLimit}, {strings.Repeat("while (0 < 1) {", 24) + "x = 1;" + strings.Repeat("}", 24), api.ErrLimit},
	// Names.
	{"int i; double i;", api.ErrKnown}, {"int i; int i; x = 1;", api.ErrKnown}, {"i = 1;", api.ErrName}, {"int i; i = j;", api.ErrName}, {"read i in [0, 1];", api.ErrName}, {"int i; while (i < n) { }", api.ErrName}, {"int i; i = x; i = 1.5;", api.ErrName},
	// Types.
	{"int i; i = 1.5;", api.ErrType}, {"int i; i = 1.5; i = x;", api.ErrType}, {"float f; f = 1.5;", api.ErrType}, {"int i; if (i) { }", api.ErrType}, {"int a[2]; a = 1;", api.ErrType}, {"int i; i[0] = 1;", api.ErrType}, {"int a[2]; a[0.5] = 1;", api.ErrType}, {"int i; read i in [0.0, 1.0];", api.ErrType}, {"double d; read d in [0, 1];", api.ErrType}, {"int i; i = sqrt(i);", api.ErrType},
	// Numbers.
	{"int i; i = 1234567890123456789;", api.ErrDigits}, {"double d; d = 123456789.0123456789;", api.ErrDigits}, {"int i; i = 2147483648;", api.ErrRange}, {"int i; read i in [-2147483648, 0];", api.ErrRange}, {"int i; read i in [2, 1];", api.ErrOrder}, {"double d; read d in [0.1, -0.1];", api.ErrOrder},
}

// P16.1, P2: fcheck.Read's error goes ahead of all others, and beside it nothing is told.
func TestWrongTexts(t *testing.T) {
	for _, c := range wrong {
		for _, o := range []api.Options{usual, {}, {Delay: -1}, {Budget: api.MaxBudget + 1}, {Thresholds: make([]int64, 65)}} {
			if s, e := analyze.Analyze([]byte(c.text), o); s != "" || e != c.want {
				t.Errorf("%.60q %v: %q, %d; want %d", c.text, o, s, e, c.want)
			}
			if analyze.Safe([]byte(c.text), o) {
				t.Errorf("%.60q %v: safe", c.text, o)
			}
		}
		for _, steps := range []int{100, 0, -1, api.MaxSteps + 1} {
			for _, script := range [][]fint.Value{nil, {{}}, {intValue(1), doubleValue(1)}} {
				if trap, at, e := analyze.Trial([]byte(c.text), script, steps); trap != api.NoTrap || at != 0 || e != c.want {
					t.Errorf("%.60q %v %d: %d, %d, %d; want %d", c.text, script, steps, trap, at, e, c.want)
				}
			}
		}
	}
}

// At the limits texts are programs still.
func TestTextsAtTheLimits(t *testing.T) {
	decls := ""
	for v := range api.MaxVars {
		decls += "int " + string(rune('a'+v)) + "[64];"
	}
	for _, text := range []string{
		strings.Repeat(" ", api.MaxText), "int i; i = 1;" + strings.Repeat("\n", api.MaxText-13), decls,
		"int i;" + strings.Repeat("i=1;", api.MaxPoints), "int i; i = " + strings.Repeat("(", 24) + "1" + strings.Repeat(")", 24) + ";", "int i; i = " + strings.Repeat("-", 23) + "1;", "int i; " + strings.Repeat("while (i < 0) {", 23) + "i = 1;" + strings.Repeat("}", 23),
		"int abcdefghijklmnop; abcdefghijklmnop = 2147483647;", "double d; d = 12345678.0123456789;", "int i; read i in [-2147483647, 2147483647];", "double d; read d in [0.5, 0.5];",
	} {
		if s := analyzed(t, text, usual); !readBack(t, s).safe || !analyze.Safe([]byte(text), usual) {
			t.Errorf("%.60q: %q", text, s)
		}
	}
}

// P16.1: solve.Solve's error of options, of any program; nothing is told beside it.
func TestOptions(t *testing.T) {
	for _, text := range []string{"", "int i; i = 1;", "int i; i = 1 / 0;"} {
		for _, o := range []api.Options{
			{Delay: -1}, {Delay: 101}, {Delay: math.MinInt}, {Delay: math.MaxInt}, {Budget: -1}, {Budget: api.MaxBudget + 1}, {Budget: math.MinInt}, {Budget: math.MaxInt}, {Thresholds: make([]int64, 65)}, {Delay: 101, Budget: -1, Thresholds: make([]int64, 999)},
		} {
			if s, e := analyze.Analyze([]byte(text), o); s != "" || e != api.ErrRange || analyze.Safe([]byte(text), o) {
				t.Errorf("%q %v: %q, %d", text, o, s, e)
			}
		}
		for _, o := range []api.Options{{}, {Delay: 100}, {Budget: api.MaxBudget}, {Thresholds: make([]int64, 64)}, {Delay: 100, Budget: api.MaxBudget, Thresholds: []int64{math.MinInt64, math.MaxInt64}}} {
			if s := analyzed(t, text, o); readBack(t, s).safe == strings.Contains(text, "/") {
				t.Errorf("%q %v: %q", text, o, s)
			}
		}
	}
}

// P16.1: each trap, at its point; the errors of a run, in fint.Run's order.
func TestTrial(t *testing.T) {
	read := "int i; double d; float f; read i in [-1, 1]; read d in [0.0, 1.0]; read f in [0.1, 0.1]; i = 1 / i;"
	tenth := singleValue(0.1)
	for _, c := range []struct {
		text   string
		script []fint.Value
		steps  int
		trap   api.Trap
		at     api.Point
		e      api.Errno
	}{
		{"", nil, 0, api.NoTrap, 0, api.OK},
		{"double d; d = 1.0; d = sqrt(-d);", nil, 9, api.TrapNan, 1, api.OK},
		{"double d; d = d / d;", nil, 1, api.TrapNan, 0, api.OK},
		{"float f; f = float(10000000000000000.0); f = f * f; f = f * f; f = f * f;", nil, 9, api.TrapInf, 2, api.OK},
		{"int i; double d; d = -2147483649.0; i = int(d);", nil, 9, api.TrapConv, 1, api.OK},
		{"int i; while (0 < 1) { i = i + 1000000000; }", nil, 9, api.TrapOver, 1, api.OK},
		{"int i; if (1 / i > 0) { i = 1; }", nil, 9, api.TrapZero, 0, api.OK},
		{"int a[3]; int i; while (a[i] == 0) { i = i + 1; }", nil, 9, api.TrapIndex, 0, api.OK},
		{"int i; i = 5;", nil, 1, api.NoTrap, 0, api.OK},
		// Steps.
		{"int i; i = 5;", nil, 0, api.NoTrap, 0, api.ErrSteps}, {"while (0 < 1) { }", nil, api.MaxSteps, api.NoTrap, 0, api.ErrSteps}, {"int i; while (i < 32767) { i = i + 1; }", nil, api.MaxSteps, api.NoTrap, 0, api.OK}, {"int i; i = 1; i = 1 / 0;", nil, 1, api.NoTrap, 0, api.ErrSteps},
		{"", nil, -1, api.NoTrap, 0, api.ErrRange}, {"", nil, api.MaxSteps + 1, api.NoTrap, 0, api.ErrRange}, {"", nil, math.MinInt, api.NoTrap, 0, api.ErrRange}, {"", nil, math.MaxInt, api.NoTrap, 0, api.ErrRange},
		// Scripts.
		{read, []fint.Value{intValue(0), doubleValue(1), tenth}, 9, api.TrapZero, 3, api.OK}, {read, []fint.Value{intValue(-1), doubleValue(0), tenth, {}}, 4, api.NoTrap, 0, api.OK},
		{read, nil, 9, api.NoTrap, 0, api.ErrScript}, {read, []fint.Value{intValue(0)}, 9, api.NoTrap, 0, api.ErrScript}, {read, []fint.Value{intValue(2), doubleValue(1), tenth}, 9, api.NoTrap, 0, api.ErrScript}, {read, []fint.Value{doubleValue(0), doubleValue(1), tenth}, 9, api.NoTrap, 0, api.ErrScript}, {read, []fint.Value{{}, doubleValue(1), tenth}, 9, api.NoTrap, 0, api.ErrScript},
		{read, []fint.Value{intValue(0), doubleValue(1.5), tenth}, 9, api.NoTrap, 0, api.ErrScript}, {read, []fint.Value{intValue(0), {Type: api.DoubleType, Bits: 1 << 63}, tenth}, 9, api.NoTrap, 0, api.ErrScript}, {read, []fint.Value{intValue(0), doubleValue(math.NaN()), tenth}, 9, api.NoTrap, 0, api.ErrScript}, {read, []fint.Value{intValue(0), doubleValue(1), singleValue(0.2)}, 9, api.NoTrap, 0, api.ErrScript}, {read, []fint.Value{intValue(0), doubleValue(1), {Type: api.FloatType, Bits: tenth.Bits | 1<<32}}, 9, api.NoTrap, 0, api.ErrScript},
		// Which one comes first.
		{read, nil, -1, api.NoTrap, 0, api.ErrRange}, {read, nil, 0, api.NoTrap, 0, api.ErrSteps}, {read, []fint.Value{intValue(0)}, 1, api.NoTrap, 0, api.ErrSteps}, {read, []fint.Value{intValue(0)}, 2, api.NoTrap, 0, api.ErrScript}, {"int i; i = 1 / i; read i in [0, 1];", nil, 9, api.TrapZero, 0, api.OK},
	} {
		if trap, at, e := analyze.Trial([]byte(c.text), c.script, c.steps); trap != c.trap || at != c.at || e != c.e {
			t.Errorf("%s %v %d: %d, %d, %d; want %d, %d, %d", c.text, c.script, c.steps, trap, at, e, c.trap, c.at, c.e)
		}
	}
}

// P1: nil is a text without bytes.
func TestNil(t *testing.T) {
	if s, e := analyze.Analyze(nil, usual); s != "end: \nsafe\n" || e != api.OK || !analyze.Safe(nil, usual) {
		t.Errorf("%q, %d", s, e)
	}
	if trap, at, e := analyze.Trial(nil, nil, 0); trap != api.NoTrap || at != 0 || e != api.OK {
		t.Error(trap, at, e)
	}
}

// P3, P6: what is handed in stays as it is, spare room too, and is not kept.
func TestWhatIsHandedIn(t *testing.T) {
	room := []byte("int i; int j; while (i < 10) { i = i + 1; read j in [0, 3]; } and more")
	src := room[:len(room)-len(" and more")]
	numbers := []int64{10, -5, 7, 99}
	o := api.Options{Delay: 1, Thresholds: numbers[:2], Budget: 100}
	values := slices.Repeat([]fint.Value{intValue(3)}, 12)
	values[11] = doubleValue(7)
	wasRoom, wasNumbers, wasValues := slices.Clone(room), slices.Clone(numbers), slices.Clone(values)

	first := analyzed(t, string(src), o)
	s, e := analyze.Analyze(src, o)
	isSafe := analyze.Safe(src, o)
	trap, at, errno := analyze.Trial(src, values[:11], 100)
	if s != first || e != api.OK || !isSafe || trap != api.NoTrap || at != 0 || errno != api.OK {
		t.Error(s, e, isSafe, trap, at, errno)
	}
	if !slices.Equal(room, wasRoom) || !slices.Equal(numbers, wasNumbers) || !slices.Equal(values, wasValues) {
		t.Error("what was handed in was changed")
	}
	// The report does not lie in the text, and the next one does not hang on what was handed in ahead of it.
	copy(src, "int k; k = 1 / k;")
	clear(src[len("int k; k = 1 / k;"):])
	numbers[0] = 3
	if s != first || !strings.HasPrefix(s, "point 0: i=0..10 ") {
		t.Error("the report was changed:", s)
	}
	if again := analyzed(t, string(wasRoom[:len(src)]), api.Options{Delay: 1, Thresholds: wasNumbers[:2], Budget: 100}); again != first {
		t.Error("something was kept:", again)
	}
}
