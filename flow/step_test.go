package flow_test

import (
	"math"
	"testing"

	"plumbline/api"
	"plumbline/fcheck"
	"plumbline/flow"
	"plumbline/state"
)

func TestExamples(t *testing.T) {
	u := unit(t, "int i; i = i + 1;")
	s := state.First(u).SetInt(0, ints(0, 3), false)
	if r, traps := flow.Step(u, s, 0); r.Int(0) != ints(1, 4) || traps != 0 {
		t.Error(r.Int(0), traps)
	}
}

// isKill tells whether r is Kill of s.
func isKill(r, s *state.State) bool {
	if s == nil {
		return r == nil
	}
	// Of the same program: the Join with it is then the state, and not Bottom.
	return r != nil && r.Bottom() && (s.Bottom() || r.Join(s).Same(s))
}

// P13.1, P13.3: Kill and 0, where there is nothing to be done.
func TestNothingToBeDone(t *testing.T) {
	u := unit(t, every+"i = 1; read i in [0, 1]; if (i > 0) { d = e; } while (i > 9) { }")
	points := []api.Point{math.MinInt, -1, 0, 1, 2, 3, 4, 5, 6, 256, math.MaxInt}
	check := func(of *fcheck.Unit, s *state.State, p api.Point, steps, branches bool) {
		t.Helper()
		r, traps := flow.Step(of, s, p)
		if !steps && (!isKill(r, s) || traps != 0) {
			t.Errorf("Step at %d: Bottom %v, %d", p, r.Bottom(), traps)
		}
		yes, no, traps := flow.Branch(of, s, p)
		if !branches && (!isKill(yes, s) || !isKill(no, s) || traps != 0) {
			t.Errorf("Branch at %d: Bottom %v, %v, %d", p, yes.Bottom(), no.Bottom(), traps)
		}
		if steps && r.Bottom() || branches && yes.Bottom() && no.Bottom() {
			t.Errorf("at %d nothing is left", p)
		}
	}
	first, top := state.First(u), state.Top(u)
	for _, p := range points {
		for _, s := range []*state.State{nil, first, top, first.Kill(), top.LessInt(i, noInts)} {
			check(nil, s, p, false, false)
		}
		for _, s := range []*state.State{nil, first.Kill(), top.LessFloat(d, noFloats)} {
			check(u, s, p, false, false)
		}
		check(u, top, p, p == 0 || p == 1 || p == 3, p == 2 || p == 4)
		check(unit(t, ""), state.First(unit(t, "")), p, false, false)
	}
	if tell(first) != tell(state.First(u)) || top.Bottom() {
		t.Error("a state was changed")
	}
}

// assignCase is an Assign, done to what started is: what it leaves of a variable, and its traps. The others stay as they were.
type assignCase struct {
	text  string
	v     int
	want  told
	traps api.Traps
}

func checkAssign(t *testing.T, c assignCase) {
	t.Helper()
	u := unit(t, every+c.text)
	s := started(u)
	was := tell(s)
	r, traps := flow.Step(u, s, 0)
	want := was
	want[c.v] = c.want
	if c.want == (told{noInts, noFloats}) {
		for v := range want {
			want[v] = c.want
		}
	}
	if got := tell(r); got != want || traps != c.traps || r.Bottom() != c.want.isNone() {
		t.Errorf("%s\n%v, %d; want\n%v, %d", c.text, got, traps, want, c.traps)
	}
	if tell(s) != was {
		t.Errorf("%s changes the state that it is done to", c.text)
	}
}

func (x told) isNone() bool { return x.ints.Empty && x.floats.Empty }

func toldInts(lo, hi int64) told { return told{ints(lo, hi), noFloats} }

func toldDoubles(lo, hi float64) told { return told{noInts, doubles(lo, hi)} }

func toldSingles(lo, hi float32) told { return told{noInts, singles(lo, hi)} }

// P13.1: Assigns to variables of each type.
func TestAssigns(t *testing.T) {
	none := told{noInts, noFloats}
	over, zero, nan, inf, conv := trapsOf(api.TrapOver), trapsOf(api.TrapZero), trapsOf(api.TrapNan), trapsOf(api.TrapInf), trapsOf(api.TrapConv)
	for _, c := range []assignCase{
		{"i = 7;", i, toldInts(7, 7), 0}, {"i = -7;", i, toldInts(-7, -7), 0}, {"j = i * i;", j, toldInts(0, 9), 0}, {"j = 6 / i;", j, toldInts(2, 6), zero}, {"j = i / 0;", j, none, zero}, {"i = 2147483647 + j * 1;", i, toldInts(2147483642, api.MaxInt), over}, {"i = 2147483647 + 1;", i, none, over}, {"i = ai[i];", i, toldInts(0, 12), trapsOf(api.TrapIndex)}, {"i = ai[j - j];", i, toldInts(0, 12), trapsOf(api.TrapIndex)}, {"i = abs(j);", i, toldInts(0, 9), 0},
		{"i = int(d);", i, toldInts(-1, 2), 0}, {"i = int(d * 2147483648.0);", i, toldInts(api.MinInt, api.MaxInt), conv}, {"i = int(2147483648.0);", i, none, conv},
		{"d = 1.5;", d, toldDoubles(1.5, 1.5), 0}, {"d = e;", d, toldDoubles(1, 4), 0}, {"d = d * 0.5;", d, toldDoubles(-0.5, 1), 0}, {"d = d - d;", d, toldDoubles(0, 0), 0}, {"d = 1.0 / e;", d, toldDoubles(0.25, 1), 0}, {"d = sqrt(e);", d, toldDoubles(1, 2), 0}, {"d = sqrt(d - 3.0);", d, none, nan}, {"e = 0.0 / 0.0;", e, none, nan}, {"e = 1.0 / 0.0;", e, none, inf}, {"d = double(i);", d, toldDoubles(0, 3), 0}, {"d = double(g);", d, toldDoubles(1, 4), 0}, {"d = ad[1];", d, toldDoubles(0, 6), 0},
		{"f = g;", f, toldSingles(1, 4), 0}, {"f = -f;", f, toldSingles(-2, 1), 0}, {"f = float(0.1);", f, toldSingles(0.1, 0.1), 0}, {"f = float(i);", f, toldSingles(0, 3), 0}, {"f = af[0];", f, toldSingles(5, 6), 0}, {"f = af[1];", f, none, trapsOf(api.TrapIndex)}, {"f = float(d);", f, toldSingles(-1, 2), 0},
		// What may be a trap, and always is one: the first one alone, then.
		{"d = sqrt(d);", d, toldDoubles(0, math.Sqrt2), nan}, {"d = 1.0 / 0.0 + sqrt(-1.0);", d, none, inf}, {"d = sqrt(-1.0) + 1.0 / 0.0;", d, none, nan}, {"d = sqrt(d) + 1.0 / 0.0;", d, none, nan | inf},
	} {
		checkAssign(t, c)
	}
}

// P13.1: of an array the range has what is stored beside what was there; of one cell it is just that.
func TestCells(t *testing.T) {
	none := told{noInts, noFloats}
	index, zero := trapsOf(api.TrapIndex), trapsOf(api.TrapZero)
	for _, c := range []assignCase{
		{"ai[0] = 99;", ai, toldInts(0, 99), 0}, {"ai[2] = -1;", ai, toldInts(-1, 12), 0}, {"ai[1] = 5;", ai, toldInts(0, 12), 0}, {"ad[1] = 7.5;", ad, toldDoubles(0, 7.5), 0}, {"ad[0] = d;", ad, toldDoubles(-1, 6), 0},
		{"af[0] = float(1.5);", af, toldSingles(1.5, 1.5), 0}, {"one[0] = 3;", one, toldInts(3, 3), 0}, {"one[0] = i;", one, toldInts(0, 3), 0}, {"one[0] = one[0] + 1;", one, toldInts(11, 13), 0},
		// Indices of several numbers, of some that are no cell's, of none that is one.
		{"ai[i - 1 + abs(i - 1) / 9] = 99;", ai, toldInts(0, 99), index}, {"ai[i] = 99;", ai, toldInts(0, 99), index}, {"ai[j] = 99;", ai, toldInts(0, 99), index}, {"ai[i / 2] = 99;", ai, toldInts(0, 99), 0}, {"one[i] = 3;", one, toldInts(3, 3), index}, {"one[i / 4] = 3;", one, toldInts(3, 3), 0},
		{"ai[3] = 99;", ai, none, index}, {"ai[-1] = 99;", ai, none, index}, {"ai[i + 3] = 99;", ai, none, index}, {"ai[i - 4] = 99;", ai, none, index}, {"one[1] = 3;", one, none, index}, {"af[-1] = float(1.0);", af, none, index}, {"ai[2147483647] = 1;", ai, none, index}, {"ad[ai[0] - 13] = 1.0;", ad, none, index},
		// The index is asked ahead of the value, and what always traps ends it.
		{"ai[1 / 0] = 99;", ai, none, zero}, {"ai[3] = 1 / 0;", ai, none, index}, {"ai[1 / 0] = ai[3];", ai, none, zero}, {"ai[2147483647 + 1] = ai[3];", ai, none, trapsOf(api.TrapOver)}, {"ai[i] = 1 / 0;", ai, none, index | zero}, {"ai[0] = 1 / 0;", ai, none, zero}, {"ai[0] = ai[3];", ai, none, index}, {"ad[0] = 1.0 / 0.0;", ad, none, trapsOf(api.TrapInf)},
		{"ai[6 / i] = 99;", ai, toldInts(0, 99), index | zero}, {"ai[0] = 6 / i;", ai, toldInts(0, 12), zero}, {"ad[i] = sqrt(d);", ad, toldDoubles(0, 6), index | trapsOf(api.TrapNan)}, {"ai[6 / i] = 2147483647 + j;", ai, toldInts(0, api.MaxInt), index | zero | trapsOf(api.TrapOver)},
	} {
		checkAssign(t, c)
	}
}

// P13.1: of a variable that is another one and a number their difference is known behind it.
func TestSums(t *testing.T) {
	for _, c := range []struct {
		text  string
		want  api.IntRange // i, where j is -5 to 9
		if2   api.IntRange // i, where j is 2
		traps api.Traps
	}{
		{"i = j;", ints(-5, 9), ints(2, 2), 0}, {"i = -j;", ints(-9, 5), ints(-2, -2), 0}, {"i = j + 3;", ints(-2, 12), ints(5, 5), 0}, {"i = j - 3;", ints(-8, 6), ints(-1, -1), 0}, {"i = 3 + j;", ints(-2, 12), ints(5, 5), 0}, {"i = 3 - j;", ints(-6, 8), ints(1, 1), 0}, {"i = -j + 3;", ints(-6, 8), ints(1, 1), 0}, {"i = -j - 3;", ints(-12, 2), ints(-5, -5), 0},
		{"i = j + 2147483647;", ints(2147483642, api.MaxInt), noInts, trapsOf(api.TrapOver)}, {"i = j - 2147483647;", ints(api.MinInt, -2147483638), ints(-2147483645, -2147483645), trapsOf(api.TrapOver)}, {"i = 2147483647 - j;", ints(2147483638, api.MaxInt), ints(2147483645, 2147483645), trapsOf(api.TrapOver)},
		// No sum of one variable and a number, as judge sees it: just the range is known.
		{"i = j * 1;", ints(-5, 9), ints(-5, 9), 0}, {"i = 4;", ints(4, 4), ints(4, 4), 0}, {"i = j / 2;", ints(-2, 4), ints(-2, 4), 0},
	} {
		u := unit(t, every+c.text)
		r, traps := flow.Step(u, started(u), 0)
		if2 := r.LessInt(j, ints(2, 2))
		if r.Int(i) != c.want || if2.Int(i) != c.if2 || traps != c.traps {
			t.Errorf("%s %v, %v, %d; want %v, %v, %d", c.text, r.Int(i), if2.Int(i), traps, c.want, c.if2, c.traps)
		}
	}
}

// Where a part traps, but the whole would be an int, the value's own range is told.
func TestSumWithAPartThatTraps(t *testing.T) {
	u := unit(t, every+"i = -j - 3; j = -j - 3;")
	s := state.First(u).SetInt(j, ints(api.MinInt, api.MinInt+1), false)
	want := ints(api.MaxInt-3, api.MaxInt-3)
	if r, traps := flow.Step(u, s, 0); r.Int(i) != want || traps != trapsOf(api.TrapOver) {
		t.Error(r.Int(i), traps)
	}
	if r, traps := flow.Step(u, s, 1); r.Int(j) != want || traps != trapsOf(api.TrapOver) {
		t.Error(r.Int(j), traps)
	}
	least := s.SetInt(j, ints(api.MinInt, api.MinInt), false)
	for p := range api.Point(2) {
		if r, traps := flow.Step(u, least, p); !r.Bottom() || traps != trapsOf(api.TrapOver) {
			t.Error(p, r.Bottom(), traps)
		}
	}
}

// A variable that is assigned to itself, with a number added, negated: what is known of it and others goes with it.
func TestAssignsToItself(t *testing.T) {
	for _, c := range []struct {
		text  string
		want  api.IntRange // i, that is j and 1, and j is 0 to 9
		if2   api.IntRange // i, where j is 2
		traps api.Traps
	}{
		{"i = i;", ints(1, 10), ints(3, 3), 0}, {"i = i + 1;", ints(2, 11), ints(4, 4), 0}, {"i = i - 5;", ints(-4, 5), ints(-2, -2), 0}, {"i = -i;", ints(-10, -1), ints(-3, -3), 0}, {"i = 2 - i;", ints(-8, 1), ints(-1, -1), 0}, {"i = -i + 2;", ints(-8, 1), ints(-1, -1), 0}, {"i = i + 2147483645;", ints(2147483646, api.MaxInt), noInts, trapsOf(api.TrapOver)},
		{"i = i + i;", ints(2, 20), ints(2, 20), 0}, {"i = i * i;", ints(1, 100), ints(1, 100), 0}, {"i = 5;", ints(5, 5), ints(5, 5), 0}, {"j = j + 1;", ints(1, 10), ints(2, 2), 0},
	} {
		u := unit(t, every+c.text)
		s := state.First(u).SetInt(j, ints(0, 9), false).CopyInt(i, j, false, 1)
		r, traps := flow.Step(u, s, 0)
		if2 := r.LessInt(j, ints(2, 2))
		if r.Int(i) != c.want || if2.Int(i) != c.if2 || traps != c.traps {
			t.Errorf("%s %v, %v, %d; want %v, %v, %d", c.text, r.Int(i), if2.Int(i), traps, c.want, c.if2, c.traps)
		}
	}
}

// Of ints that an octagon has no place for the range is known.
func TestManyInts(t *testing.T) {
	text := ""
	for v := range rune(api.MaxInts + 2) {
		text += "int " + string('a'+v) + "; "
	}
	u := unit(t, text+"j = a + 1; a = j + 1; j = -i; j = j + 1; read j in [3, 8];")
	s := state.First(u).SetInt(0, ints(1, 5), false).SetInt(8, ints(-3, 3), false).SetInt(9, ints(2, 4), false)
	for p, want := range []told{toldInts(2, 6), toldInts(3, 5), toldInts(-3, 3), toldInts(3, 5), toldInts(3, 8)} {
		v := 9
		if p == 1 {
			v = 0
		}
		if r, traps := flow.Step(u, s, api.Point(p)); r.Int(v) != want.ints || traps != 0 {
			t.Errorf("%d: %v, %d; want %v", p, r.Int(v), traps, want.ints)
		}
	}
}

// States of another program: nothing is said of them but that calls end.
func TestUnlikePrograms(t *testing.T) {
	u := unit(t, every+"i = j; ai[i] = one[j]; d = d + e; read f in [0.0, 1.0]; read j in [0, 3]; one[0] = i; if (d < e && i < ai[j] || f == g) { }")
	for _, text := range []string{"", "int i;", "double i; int f; int d; double ai; int af[3]; int ad; double j; int g; int e;", "int a[3]; int i[64];"} {
		other := unit(t, text)
		for _, s := range []*state.State{state.First(other), state.Top(other)} {
			for p := range api.Point(u.Points()) {
				flow.Step(u, s, p)
				flow.Branch(u, s, p)
			}
		}
	}
}
