package report_test

import (
	"math"
	"slices"
	"strings"
	"testing"

	"plumbline/api"
	"plumbline/fcheck"
	"plumbline/report"
	"plumbline/solve"
	"plumbline/state"
)

func TestExamples(t *testing.T) {
	for _, c := range []struct{ text, want string }{
		// The chapter's.
		{"int i; i = 1;", lines("point 0: i=0..0", "end: i=1..1", "safe")},
		// Those of DOC.md.
		{"double x; read x in [0.0, 1.0]; x = 1.0 / (x + 1.0);", lines("point 0: x=0000000000000000..0000000000000000", "point 1: x=0000000000000000..3ff0000000000000", "end: x=3fe0000000000000..3ff0000000000000", "safe")},
		{"int i; float f; i = 1; i = 1 / (i - 1); f = float(i);", lines("point 0: i=0..0 f=00000000..00000000", "point 1: i=1..1 f=00000000..00000000", "point 2: unreached", "end: unreached", "alarm 1 zero", "unsafe")},
	} {
		u := unit(t, c.text)
		if got := report.Text(u, solved(t, u, api.Options{Budget: 100})); got != c.want {
			t.Errorf("%s:\n%swant\n%s", c.text, got, c.want)
		}
	}
	u := unit(t, "double x; read x in [0.0, 1.0]; x = 1.0 / x;")
	if got := report.Text(u, solved(t, u, api.Options{Budget: 100})); !strings.HasSuffix(got, "\nalarm 1 inf\nunsafe\n") {
		t.Error(got)
	}
}

// P15.1: of a nil unit it is empty, whatever is answered.
func TestNilUnit(t *testing.T) {
	u := unit(t, "int i; i = 1 / i;")
	for _, a := range []solve.Answer{{}, {Tired: true}, {Ahead: make([]*state.State, 3)}, {Alarms: []api.Alarm{{Trap: api.TrapNan}}}, solved(t, u, api.Options{})} {
		if got := report.Text(nil, a); got != "" {
			t.Errorf("%v: %q", a, got)
		}
	}
}

// P15.1: each point of Ahead has a line, however many points the program has; nil and Bottom are unreached.
func TestAhead(t *testing.T) {
	u := unit(t, "int i; i = 1; i = 2;")
	first, top := state.First(u), state.Top(u)
	for _, c := range []struct {
		answer solve.Answer
		want   string
	}{
		{solve.Answer{}, lines("end: unreached", "safe")},
		{solve.Answer{Ahead: []*state.State{}, End: first}, lines("end: i=0..0", "safe")},
		{solve.Answer{Ahead: []*state.State{first}, End: top}, lines("point 0: i=0..0", "end: i=-2147483648..2147483647", "safe")},
		{solve.Answer{Ahead: []*state.State{nil, first, first.Kill(), nil, top}, End: top.Kill()}, lines("point 0: unreached", "point 1: i=0..0", "point 2: unreached", "point 3: unreached", "point 4: i=-2147483648..2147483647", "end: unreached", "safe")},
	} {
		if got := report.Text(u, c.answer); got != c.want {
			t.Errorf("%qwant\n%q", got, c.want)
		}
	}
	var many []*state.State
	for range 12 {
		many = append(many, first)
	}
	if got := report.Text(u, solve.Answer{Ahead: many, End: first}); !strings.Contains(got, "\npoint 9: i=0..0\npoint 10: i=0..0\npoint 11: i=0..0\nend: i=0..0\n") {
		t.Error(got)
	}
}

// P15.1: a state has all declarations, in their order, with one blank between each two; without any the line ends behind its blank.
func TestDeclarations(t *testing.T) {
	zero, one := strings.Repeat("0", 16), strings.Repeat("0", 8)
	for _, c := range []struct{ decls, want string }{
		{"", ""},
		{"int i;", "i=0..0"},
		{"float f;", "f=" + one + ".." + one},
		{"double d;", "d=" + zero + ".." + zero},
		{"int a[3];", "a=0..0"},
		{"float a[1];", "a=" + one + ".." + one},
		{"double a[64];", "a=" + zero + ".." + zero},
		{"double B_9; int a; float abcdefghijklmnop; int a2[2];", "B_9=" + zero + ".." + zero + " a=0..0 abcdefghijklmnop=" + one + ".." + one + " a2=0..0"},
	} {
		u := unit(t, c.decls)
		s := state.First(u)
		if got, want := report.Text(u, solve.Answer{Ahead: []*state.State{s, s.Kill()}, End: s}), lines("point 0: "+c.want, "point 1: unreached", "end: "+c.want, "safe"); got != want {
			t.Errorf("%s: %q, want %q", c.decls, got, want)
		}
	}
	// As many as may be.
	decls, want := "", ""
	for v := range api.MaxVars {
		name := string(rune('a' + v))
		decls += "int " + name + "; "
		want += " " + name + "=0..0"
	}
	u := unit(t, decls)
	if got := report.Text(u, solve.Answer{End: state.First(u)}); got != "end:"+want+"\nsafe\n" {
		t.Error(got)
	}
}

// P15.1: ints as digits with - ahead, if below 0; both ends, each by itself.
func TestInts(t *testing.T) {
	u := unit(t, "double d; int i; int a[4];")
	for _, c := range []struct {
		lo, hi int64
		want   string
	}{
		{0, 0, "0..0"}, {-1, 1, "-1..1"}, {-10, -9, "-10..-9"}, {7, 1000000, "7..1000000"},
		{api.MinInt, api.MinInt, "-2147483648..-2147483648"}, {api.MaxInt, api.MaxInt, "2147483647..2147483647"}, {api.MinInt, api.MaxInt, "-2147483648..2147483647"}, {api.MinInt + 1, api.MaxInt - 1, "-2147483647..2147483646"},
	} {
		r := api.IntRange{Lo: c.lo, Hi: c.hi}
		got := report.Text(u, solve.Answer{End: state.First(u).SetInt(1, r, false)})
		if want := "end: d=0000000000000000..0000000000000000 i=" + c.want + " a=0..0\nsafe\n"; got != want {
			t.Errorf("%q, want %q", got, want)
		}
		// Of an array it is the range of all its cells.
		got = report.Text(u, solve.Answer{End: state.Top(u).LessInt(2, r)})
		if want := " i=-2147483648..2147483647 a=" + c.want + "\nsafe\n"; !strings.HasSuffix(got, want) {
			t.Errorf("%q, want %q", got, want)
		}
	}
}

// P15.1: floats as all digits of their bits, by the format of the variable.
func TestFloats(t *testing.T) {
	u := unit(t, "float f; double d; float e[2]; double g[2];")
	for _, c := range []struct {
		single, double api.FloatRange
		want           string
	}{
		{singles(0, 0), doubles(0, 0), "f=00000000..00000000 d=0000000000000000..0000000000000000"},
		{singles(1, 1.5), doubles(1, 1.5), "f=3f800000..3fc00000 d=3ff0000000000000..3ff8000000000000"},
		{singles(-2, -1), doubles(-2, -1), "f=c0000000..bf800000 d=c000000000000000..bff0000000000000"},
		{singles(-math.MaxFloat32, math.MaxFloat32), doubles(-math.MaxFloat64, math.MaxFloat64), "f=ff7fffff..7f7fffff d=ffefffffffffffff..7fefffffffffffff"},
		{singles(-math.SmallestNonzeroFloat32, math.SmallestNonzeroFloat32), doubles(-math.SmallestNonzeroFloat64, math.SmallestNonzeroFloat64), "f=80000001..00000001 d=8000000000000001..0000000000000001"},
		{singles(0, 0.1), doubles(-0.1, 0), "f=00000000..3dcccccd d=bfb999999999999a..0000000000000000"},
	} {
		s := state.First(u).SetFloat(0, c.single, false).SetFloat(1, c.double, false)
		got := report.Text(u, solve.Answer{End: s})
		if want := "end: " + c.want + " e=00000000..00000000 g=0000000000000000..0000000000000000\nsafe\n"; got != want {
			t.Errorf("%q, want %q", got, want)
		}
		s = state.Top(u).LessFloat(2, c.single).LessFloat(3, c.double)
		got = report.Text(u, solve.Answer{End: s})
		if want := " " + strings.NewReplacer("f=", "e=", "d=", "g=").Replace(c.want) + "\nsafe\n"; !strings.HasSuffix(got, want) {
			t.Errorf("%q, want %q", got, want)
		}
	}
}

func singles(lo, hi float32) api.FloatRange {
	return api.FloatRange{Lo: uint64(math.Float32bits(lo)), Hi: uint64(math.Float32bits(hi))}
}

func doubles(lo, hi float64) api.FloatRange {
	return api.FloatRange{Lo: math.Float64bits(lo), Hi: math.Float64bits(hi)}
}

// P15.1: alarms of each trap, at any points, in the order in which they stand; of what is no trap there is no line, but it is unsafe.
func TestAlarms(t *testing.T) {
	u := unit(t, "")
	for _, c := range []struct {
		alarms []api.Alarm
		want   []string
	}{
		{[]api.Alarm{{Point: 0, Trap: api.TrapNan}}, []string{"alarm 0 nan"}},
		{[]api.Alarm{{Point: 1, Trap: api.TrapInf}}, []string{"alarm 1 inf"}},
		{[]api.Alarm{{Point: 22, Trap: api.TrapConv}}, []string{"alarm 22 conv"}},
		{[]api.Alarm{{Point: 255, Trap: api.TrapOver}}, []string{"alarm 255 over"}},
		{[]api.Alarm{{Point: 3, Trap: api.TrapZero}}, []string{"alarm 3 zero"}},
		{[]api.Alarm{{Point: 4, Trap: api.TrapIndex}}, []string{"alarm 4 index"}},
		{[]api.Alarm{{Point: 9, Trap: api.TrapIndex}, {Point: 2, Trap: api.TrapNan}, {Point: 9, Trap: api.TrapIndex}, {Point: 2, Trap: api.TrapInf}}, []string{"alarm 9 index", "alarm 2 nan", "alarm 9 index", "alarm 2 inf"}},
		{[]api.Alarm{{Point: -1, Trap: api.TrapZero}, {Point: 1 << 40, Trap: api.TrapZero}, {Point: math.MinInt, Trap: api.TrapZero}}, []string{"alarm -1 zero", "alarm 1099511627776 zero", "alarm -9223372036854775808 zero"}},
		{[]api.Alarm{{Point: 1, Trap: api.NoTrap}}, nil},
		{[]api.Alarm{{Point: 1, Trap: api.TrapIndex + 1}, {Point: 1, Trap: -1}, {Point: 5, Trap: api.TrapOver}, {Trap: math.MinInt}, {Trap: math.MaxInt}}, []string{"alarm 5 over"}},
	} {
		for _, tired := range []bool{false, true} {
			a := solve.Answer{End: state.First(u), Alarms: c.alarms, Tired: tired}
			want := append([]string{"end: "}, c.want...)
			if tired {
				want = append(want, "tired")
			}
			if got := report.Text(u, a); got != lines(append(want, "unsafe")...) {
				t.Errorf("%v: %q, want %q", c.alarms, got, want)
			}
			if report.Sound(a) {
				t.Errorf("%v: sound", c.alarms)
			}
		}
	}
}

// P15.1, P15.4: tired stands ahead of the last line, which is safe just if there is no alarm; Steps is not told.
func TestVerdict(t *testing.T) {
	u := unit(t, "")
	for _, none := range [][]api.Alarm{nil, {}} {
		for _, steps := range []int{0, 1, -5, 1000} {
			a := solve.Answer{Alarms: none, Steps: steps}
			if got := report.Text(u, a); got != "end: unreached\nsafe\n" || !report.Sound(a) {
				t.Errorf("%q", got)
			}
			a.Tired = true
			if got := report.Text(u, a); got != "end: unreached\ntired\nsafe\n" || !report.Sound(a) {
				t.Errorf("%q", got)
			}
		}
	}
}

// P15.2: Lines is line feeds, no other bytes; what stands behind the last one is none.
func TestLines(t *testing.T) {
	for text, want := range map[string]int{
		"": 0, "a": 0, "\n": 1, "a\n": 1, "a\nb": 1, "\na": 1, "\n\n\n": 3, "a\n\nb\n": 3, "\r": 0, "\r\n\r\n": 2, "\v\f\x00": 0, "\\n": 0,
		"\xff\n\xfe\x80\n\x8a\xc2\x85": 2, "\u2028\u2029\u0085": 0, "\xe2\x0a\x80": 1, "point 0: \nend: \nsafe\n": 3, strings.Repeat("\n", 5000): 5000, strings.Repeat("ab\n", 70000) + "x": 70000,
	} {
		if got := report.Lines(text); got != want {
			t.Errorf("%.40q: %d, want %d", text, got, want)
		}
	}
}

// P3: what is handed in stays as it is, spare room too.
func TestWhatIsHandedIn(t *testing.T) {
	u := unit(t, "int i; int j; i = 1 / i; j = 2;")
	room := []api.Alarm{{Point: 5, Trap: 9}, {Point: 3, Trap: api.TrapNan}, {Point: 77, Trap: api.TrapInf}}
	states := []*state.State{state.First(u), nil, state.Top(u)}
	a := solve.Answer{Ahead: states[:2], End: states[2], Alarms: room[:2], Steps: 4, Tired: true}
	want := report.Text(u, a)
	if !slices.Equal(room, []api.Alarm{{Point: 5, Trap: 9}, {Point: 3, Trap: api.TrapNan}, {Point: 77, Trap: api.TrapInf}}) || states[0] == nil || states[1] != nil || states[2] != a.End {
		t.Error("what was handed in was changed")
	}
	if !states[0].Same(state.First(u)) || !states[2].Same(state.Top(u)) || u.Points() != 2 || len(u.Vars()) != 2 {
		t.Error("a state or the unit was changed")
	}
	if got := report.Text(u, a); got != want {
		t.Errorf("the second time %q, the first time %q", got, want)
	}
}

// P1: states of other programs than the unit's; nothing is said of them but that it ends.
func TestOtherPrograms(t *testing.T) {
	units := []*fcheck.Unit{unit(t, ""), unit(t, "int i;"), unit(t, "double i; float j;"), unit(t, "int a[3]; float i; int j;")}
	for _, u := range units {
		for _, v := range units {
			s := state.Top(v)
			text := report.Text(u, solve.Answer{Ahead: []*state.State{s, s.Kill()}, End: s})
			if report.Lines(text) != 4 || !strings.HasSuffix(text, "\nsafe\n") {
				t.Errorf("%q", text)
			}
		}
	}
}
