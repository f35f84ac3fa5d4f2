package flow_test

import (
	"testing"

	"plumbline/api"
	"plumbline/fcheck"
	"plumbline/flow"
	"plumbline/state"
)

// P13.1: behind a Read its variable's range is just from Low to High; the others stay as they were.
func TestReads(t *testing.T) {
	tenth := float32(0.1)
	for _, c := range []assignCase{
		{"read i in [1, 4];", i, toldInts(1, 4), 0}, {"read i in [-4, -1];", i, toldInts(-4, -1), 0}, {"read i in [-4, 1];", i, toldInts(-4, 1), 0}, {"read i in [7, 7];", i, toldInts(7, 7), 0}, {"read i in [-7, -7];", i, toldInts(-7, -7), 0}, {"read i in [0, 0];", i, toldInts(0, 0), 0}, {"read j in [-0, 0];", j, toldInts(0, 0), 0}, {"read j in [-2147483647, 2147483647];", j, toldInts(-api.MaxInt, api.MaxInt), 0},
		{"read d in [0.0, 1.0];", d, toldDoubles(0, 1), 0}, {"read d in [-0.1, 0.1];", d, toldDoubles(-0.1, 0.1), 0}, {"read d in [0.1, 0.1];", d, toldDoubles(0.1, 0.1), 0}, {"read d in [-0.5, -0.25];", d, toldDoubles(-0.5, -0.25), 0}, {"read e in [-0.0, 0.0];", e, toldDoubles(0, 0), 0}, {"read e in [0.0, -0.0];", e, toldDoubles(0, 0), 0}, {"read e in [0.00000000000000001, 99999999999999999.9];", e, toldDoubles(1e-17, 1e17), 0},
		{"read f in [0.0, 1.0];", f, toldSingles(0, 1), 0}, {"read f in [-0.1, 0.1];", f, toldSingles(-tenth, tenth), 0}, {"read f in [0.1, 0.1];", f, toldSingles(tenth, tenth), 0}, {"read g in [-0.0, 0.0];", g, toldSingles(0, 0), 0}, {"read f in [-1.5, -1.5];", f, toldSingles(-1.5, -1.5), 0},
		// Bounds that are one Single, and ones that are rounded once: just above the half between two Singles, which as a Double is that half.
		{"read f in [16777216.0, 16777217.0];", f, toldSingles(16777216, 16777216), 0}, {"read f in [0.1, 0.10000000000000001];", f, toldSingles(tenth, tenth), 0}, {"read f in [16777217.0000000001, 16777219.0];", f, toldSingles(16777218, 16777220), 0}, {"read f in [-16777217.0000000001, 0.0];", f, toldSingles(-16777218, 0), 0},
	} {
		checkAssign(t, c)
	}
}

// Whatever was known of the variable and another one is not known behind a Read of it; what is known of others is.
func TestReadForgets(t *testing.T) {
	u := unit(t, every+"int k; read i in [0, 9];")
	s := state.First(u).SetInt(j, ints(0, 3), false).CopyInt(i, j, false, 1).CopyInt(vars, j, false, 2)
	r, traps := flow.Step(u, s, 0)
	if2 := r.LessInt(j, ints(2, 2))
	if r.Int(i) != ints(0, 9) || if2.Int(i) != ints(0, 9) || if2.Int(vars) != ints(4, 4) || traps != 0 {
		t.Error(r.Int(i), if2.Int(i), if2.Int(vars), traps)
	}
	if if2 := s.LessInt(j, ints(2, 2)); if2.Int(i) != ints(3, 3) {
		t.Error("the state was changed:", if2.Int(i))
	}
}

// P13.1: with each value from Low to High the cells fit what is told; with those beside them they do not.
func TestEachValueRead(t *testing.T) {
	u := unit(t, every+"read i in [-3, 5]; read f in [-0.1, 1.5]; read d in [-0.1, 1.5];")
	d := dice(77)
	first := firsts(u)
	for range 300 {
		s, cells := d.stateOf(u)
		for p, v := range []int{i, f, 2} {
			kind := u.Vars()[v].Type
			r, traps := flow.Step(u, s, api.Point(p))
			if traps != 0 || !r.Has(withValue(cells, first[v], kind, r, v, &d)) {
				t.Fatal("a value that is read does not fit", p, traps)
			}
		}
		r, _ := flow.Step(u, s, 0)
		for n := int64(-5); n <= 7; n++ {
			behind := append(cells[:0:0], cells...)
			behind[first[i]].Int = n
			if r.Has(behind) != (n >= -3 && n <= 5) {
				t.Fatal(n, r.Has(behind))
			}
		}
	}
}

// The language has no Read of an array, nor of a cell of one.
func TestNoReadsOfCells(t *testing.T) {
	for text, want := range map[string]api.Errno{"read ai in [0, 1];": api.ErrType, "read one in [0, 1];": api.ErrType, "read ai[0] in [0, 1];": api.ErrForm} {
		if _, e := fcheck.Read(every + text); e != want {
			t.Error(text, e)
		}
	}
}
