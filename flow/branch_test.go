package flow_test

import (
	"testing"

	"plumbline/api"
	"plumbline/flow"
	"plumbline/judge"
)

// P13.3: conditions that hold always, never and sometimes; that trap always and sometimes. Of an If and of a While alike.
func TestBranches(t *testing.T) {
	none, all := noInts, ints(0, 3)
	zero, index := trapsOf(api.TrapZero), trapsOf(api.TrapIndex)
	for _, c := range []struct {
		text    string
		yes, no api.IntRange // i, that is 0 to 3
		traps   api.Traps
	}{
		{"i >= 0", all, none, 0}, {"1 < 2", all, none, 0}, {"i < 0", none, all, 0}, {"2 <= 1", none, all, 0}, {"i > 1", ints(2, 3), ints(0, 1), 0}, {"i == 0", ints(0, 0), ints(1, 3), 0}, {"i == 1", ints(1, 1), all, 0}, {"i != 3", ints(0, 2), ints(3, 3), 0}, {"i > 0 && i < 3", ints(1, 2), all, 0}, {"i < 1 || i < 2", ints(0, 1), ints(2, 3), 0}, {"!(i < 2)", ints(2, 3), ints(0, 1), 0}, {"d < 0.0", all, all, 0}, {"f < float(-1.0)", none, all, 0},
		{"1 / 0 == 1", none, none, zero}, {"ai[3] < 1", none, none, index}, {"ai[3] < 1 / 0", none, none, index}, {"1 / i == 1", all, all, zero}, {"ai[i] < 12", all, all, index}, {"sqrt(d) < 1.0", all, all, trapsOf(api.TrapNan)}, {"i > 1 && 6 / i == 2", ints(2, 3), all, 0}, {"i < 2 || ai[i - 2] > 12", ints(0, 1), ints(2, 3), 0}, {"i == 1 || 6 / i > 3", all, all, zero}, {"i < 2 && 1 / 0 == 1", none, ints(2, 3), zero},
	} {
		u := unit(t, every+"if ("+c.text+") { i = 9; } else { i = 8; } while ("+c.text+") { i = 7; }")
		s := started(u)
		was := tell(s)
		for _, p := range []api.Point{0, 3} {
			yes, no, traps := flow.Branch(u, s, p)
			if yes.Int(i) != c.yes || no.Int(i) != c.no || traps != c.traps {
				t.Errorf("%s: %v, %v, %d; want %v, %v, %d", c.text, yes.Int(i), no.Int(i), traps, c.yes, c.no, c.traps)
			}
			if yes.Bottom() != c.yes.Empty || no.Bottom() != c.no.Empty || !yes.Within(s) || !no.Within(s) {
				t.Errorf("%s: Bottom %v, %v, or not within", c.text, yes.Bottom(), no.Bottom())
			}
		}
		if tell(s) != was {
			t.Errorf("%s changes the state", c.text)
		}
	}
}

// P13.3: of conditions that are drawn just what judge tells.
func TestBranchIsTest(t *testing.T) {
	d := dice(424242)
	w := writer{&d}
	for range 3000 {
		cond := w.truth(2 + d.below(4))
		do := pick(&d, api.If, api.While)
		u := w.program(t, api.Stmt{Do: do, Value: cond, Then: []api.Stmt{w.assign()}})
		s, _ := d.stateOf(u)
		yes, no, traps := flow.Branch(u, s, 0)
		wantYes, first := judge.Test(u, s, cond, true)
		wantNo, second := judge.Test(u, s, cond, false)
		if !yes.Same(wantYes) || !no.Same(wantNo) || traps != first|second {
			t.Fatalf("%v: otherwise than judge.Test, traps %d, want %d", cond, traps, first|second)
		}
	}
}
