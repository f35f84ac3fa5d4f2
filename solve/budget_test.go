package solve_test

import (
	"strings"
	"testing"

	"plumbline/api"
	"plumbline/fcheck"
	"plumbline/state"
)

// nested is loops as deep in one another as may be, each with a statement ahead of the inner one and one behind it.
func nested(t *testing.T, deep int) *fcheck.Unit {
	t.Helper()
	text := "int a; int b; int c; int x; "
	for n := range deep {
		name := string("abc"[n%3])
		text += "while (" + name + " < 9) { " + name + " = " + name + " + 1; "
	}
	return unit(t, text+strings.Repeat("x = a + b; }", deep))
}

// P14.3: with a Budget of 0 each loop is gone through once, with all that may be.
func TestTiredAtOnce(t *testing.T) {
	u := unit(t, "int i; int j; j = 5; while (i < 10) { i = i + 1; } j = j + 1;")
	a := solved(t, u, api.Options{})
	if !a.Tired || a.Steps != 4 || !a.Ahead[1].Same(state.Top(u)) || a.End.Int(0) != ints(10, api.MaxInt) {
		t.Error(a.Tired, a.Steps, a.End.Int(0))
	}
	if a.Ahead[1].Int(1) != ints(api.MinInt, api.MaxInt) || len(a.Alarms) != 1 || a.Alarms[0] != (api.Alarm{Point: 3, Trap: api.TrapOver}) {
		t.Error(a.Ahead[1].Int(1), a.Alarms)
	}
	// A loop that is not reached is not gone through.
	u = unit(t, "int i; if (i > 0) { while (i < 10) { i = 1 / 0; } }")
	a = solved(t, u, api.Options{})
	if !a.Tired || a.Steps != 1 || !a.Ahead[1].Bottom() || !a.Ahead[2].Bottom() || len(a.Alarms) != 0 {
		t.Error(a.Tired, a.Steps, a.Alarms)
	}
	// What has no loop is known as well as ever.
	u = unit(t, "int i; i = 1; i = i + 1; i = i + 1;")
	for budget := range 5 {
		a = solved(t, u, api.Options{Budget: budget})
		if a.Tired != (budget <= 3) || a.Steps != 3 || a.End.Int(0) != ints(3, 3) {
			t.Error(budget, a.Tired, a.Steps, a.End.Int(0))
		}
	}
}

// P14.3: with a Budget of just as many steps as it takes it came to it; with one more it did not.
func TestJustEnough(t *testing.T) {
	for _, text := range []string{
		"int i; i = 1;", "int i; while (i < 10) { i = i + 1; }", "int i; while (0 == 0) { i = 1; }", "int i; int j; while (i < 10) { j = 0; while (j < i) { j = j + 1; } i = i + 1; }",
		"double x; int i; read x in [0.0, 1.0]; while (i < 9) { i = i + 1; if (x > 0.5) { x = x / 2.0; } else { x = x * 2.0; } }",
	} {
		u := unit(t, text)
		most := solved(t, u, enough)
		if most.Tired {
			t.Fatal(text, "is tired with all that may be spent")
		}
		for budget := range most.Steps + 3 {
			a := solved(t, u, api.Options{Budget: budget})
			if a.Tired != (budget <= most.Steps) {
				t.Errorf("%s: with %d, where it takes %d, tired is %v", text, budget, most.Steps, a.Tired)
			}
			a.Tired = false
			if budget >= most.Steps && !isSame(a, most) {
				t.Errorf("%s: with %d, where it takes %d, it is otherwise", text, budget, most.Steps)
			}
			checkSound(t, u, api.Options{Budget: budget}, a, runOf(new(dice(7)), u, 60))
		}
	}
}

// P14.3: loops many deep in one another, with any Budget; Steps stays below what is promised (solved holds it against that), and all is sound.
func TestDeepLoops(t *testing.T) {
	d := dice(19)
	for _, deep := range []int{1, 2, 5, api.MaxDeep - 1} {
		u := nested(t, deep)
		for _, o := range []api.Options{{}, {Budget: 1}, {Budget: 2}, {Budget: 20}, {Budget: 137}, {Budget: 1000}, {Budget: 1000, Delay: 100}, {Budget: 5000, Delay: 2}, {Budget: 300, Thresholds: []int64{3, 9, 20}}} {
			a := solved(t, u, o)
			for range 3 {
				checkSound(t, u, o, a, runOf(&d, u, 500))
			}
		}
	}
	// With a Delay for which it would go on for ever and ever it ends all the same.
	u := nested(t, api.MaxDeep-1)
	if a := solved(t, u, api.Options{Delay: 100, Budget: api.MaxBudget}); !a.Tired {
		t.Error("not tired:", a.Steps)
	}
}

// As many points as may be, all in one loop in which nothing settles at once.
func TestMostPoints(t *testing.T) {
	u := unit(t, "int i; int j; while (i < 100) { "+strings.Repeat("i=j+1;", 127)+strings.Repeat("j=i-1;", 128)+"}")
	if u.Points() != api.MaxPoints {
		t.Fatal(u.Points())
	}
	d := dice(3)
	for _, budget := range []int{0, 1, 255, 256, 257, 5000, api.MaxBudget} {
		o := api.Options{Budget: budget}
		checkSound(t, u, o, solved(t, u, o), runOf(&d, u, 2000))
	}
}

// What is known of two variables may let bounds creep, time by time: it comes to an end ahead of a great budget.
func TestCreepingBounds(t *testing.T) {
	d := dice(40)
	for _, text := range []string{
		"int i; int j; int k; while (i < 10) { j = 0; while (j < i) { j = j + 1; k = k + 1; } i = i + 1; }",
		"int i; int j; int k; int l; l = k - 10; while (l != 3) { read k in [0, 2]; while (i <= 10) { while (j >= 1) { read l in [0, 2]; } while (k != 3) { j = j + 1; k = j - 100; k = l - 2; l = 1; } } j = 2; }",
		"int i; int j; int k; int l; while (l < 10) { while (k > 0) { if (j > 3) { read l in [0, 2]; } else { i = i + 1; i = 1; k = k + i; j = l + i; } } read k in [0, 1]; while (j == 1) { while (i != l) { k = l - 10; } } i = j + l; }",
	} {
		u := unit(t, text)
		for _, o := range []api.Options{{Delay: 2, Budget: 4000}, {Budget: 4000}, {Budget: 4000, Thresholds: []int64{10, 100, 1000}}} {
			a := solved(t, u, o)
			if a.Tired {
				t.Errorf("%s %v: tired", text, o)
			}
			for range 20 {
				checkSound(t, u, o, a, runOf(&d, u, 200))
			}
		}
	}
}

// What begins to move behind many times comes to an end, too, upward and downward.
func TestWhatMovesLate(t *testing.T) {
	text, body := "int up; int down; double x; double y; float z; ", "if (l == 1) { up = up + 1; down = down - 1; x = x + 1.0; y = y - 1.0; z = float(y); } "
	for _, c := range "lkjihgfedcba" {
		text += "int " + string(c) + "; "
		if c > 'a' {
			body += "if (" + string(c-1) + " == 1) { " + string(c) + " = 1; } "
		}
	}
	u := unit(t, text+"while (0 == 0) { "+body+"a = 1; }")
	d := dice(41)
	for _, o := range []api.Options{{Budget: 4000}, {Delay: 1, Budget: 4000}, {Thresholds: []int64{-7, 7}, Budget: 4000}} {
		a := solved(t, u, o)
		if a.Tired {
			t.Errorf("%v: tired", o)
		}
		r := runOf(&d, u, 400)
		checkSound(t, u, o, a, r)
		if last := r.seen[len(r.seen)-1].Cells; last[0].Int < 3 || last[1].Int > -3 || last[2].Bits == 0 {
			t.Fatal("nothing moved:", last)
		}
	}
}
