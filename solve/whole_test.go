package solve_test

import (
	"slices"
	"testing"

	"plumbline/api"
	"plumbline/fint"
)

// P14.2, P14.3, P14.5, P14.6 (E4, E5): programs that are drawn, with options and scripts that are: what is seen in any run is told, and each trap is.
func TestSound(t *testing.T) {
	d := dice(141414)
	w := writer{&d}
	var ended, trapped, open, safe, tired, calm int
	for range 2500 {
		u, o := checked(t, w.program()), w.options()
		a := solved(t, u, o)
		if a.Tired {
			tired++
		} else {
			calm++
		}
		for range 6 {
			r := runOf(&d, u, pick(&d, 0, 3, 20, 100))
			checkSound(t, u, o, a, r)
			switch {
			case r.trap != api.NoTrap:
				trapped++
			case r.isOver:
				open++
			default:
				ended++
			}
			// checkSound has told, if it trapped all the same.
			if len(a.Alarms) == 0 && len(r.seen) > 5 {
				safe++
			}
		}
	}
	if ended < 1000 || trapped < 1000 || open < 1000 || safe < 100 || tired < 300 || calm < 300 {
		t.Error("too few of a kind:", ended, trapped, open, safe, tired, calm)
	}
}

// P14.6: a program without alarms never traps.
func TestSafePrograms(t *testing.T) {
	d := dice(7007)
	for _, text := range []string{
		"double x; read x in [0.0, 1.0]; x = 1.0 / (x + 1.0);",
		"int i; int a[10]; while (i < 10) { a[i] = i; i = i + 1; }",
		"int i; int n; int a[10]; read n in [0, 10]; while (i < n) { a[i] = a[i] / 2; i = i + 1; }",
		"double x; double y; read x in [0.0, 4.0]; y = sqrt(x); if (y > 0.5) { y = 1.0 / y; }",
		"int i; double s; while (i < 100) { read s in [-1.0, 1.0]; s = s * s - s; i = i + 1; }",
		"float f; read f in [-1.0, 1.0]; f = f - f * f; f = sqrt(abs(f));",
		"int i; int j; read i in [1, 9]; j = 9 / i; while (j > 0) { j = j - 1; i = 9 / i + 1; }",
	} {
		u := unit(t, text)
		a := solved(t, u, enough)
		if len(a.Alarms) != 0 {
			t.Errorf("%s: %v", text, a.Alarms)
		}
		for range 300 {
			r := runOf(&d, u, 1000)
			checkSound(t, u, enough, a, r)
			if r.trap != api.NoTrap {
				t.Fatalf("%s traps with %v", text, r.script)
			}
		}
	}
}

// P14.4 (E6): programs of Assigns and Reads of one value each are told exactly, whatever the budget is.
func TestFloor(t *testing.T) {
	d := dice(6006)
	w := writer{&d}
	ended, trapped := 0, 0
	for range 6000 {
		u, o := checked(t, w.straight()), w.options()
		r := runOf(&d, u, 100)
		a := solved(t, u, o)
		for p, s := range a.Ahead {
			if p >= len(r.seen) && !s.Bottom() || p < len(r.seen) && !hasJust(s, r.seen[p].Cells) {
				t.Fatalf("%s, read %v: at %d not just %v", textOf(u), r.script, p, r.seen)
			}
		}
		var want []api.Alarm
		if r.trap != api.NoTrap {
			want = []api.Alarm{{Point: api.Point(len(r.seen) - 1), Trap: r.trap}}
			trapped++
		} else {
			ended++
		}
		if !slices.Equal(a.Alarms, want) || a.End.Bottom() != (r.trap != api.NoTrap) || r.trap == api.NoTrap && !hasJust(a.End, r.cells) || a.Steps != len(r.seen) {
			t.Fatalf("%s, read %v: %v, %d steps; want %v", textOf(u), r.script, a.Alarms, a.Steps, want)
		}
	}
	if ended < 1000 || trapped < 1000 {
		t.Error("too few that end, or that trap:", ended, trapped)
	}
}

// The floor at the edges: bounds that are one Single, an int at each end, the first of several traps.
func TestFloorAtEdges(t *testing.T) {
	for _, c := range []struct {
		text  string
		cells []fint.Value
		alarm []api.Alarm
	}{
		{"float f; read f in [16777217.0, 16777217.0];", []fint.Value{{Type: api.FloatType, Bits: 0x4b800000}}, nil},
		{"int i; i = -2147483647 - 1; i = -i;", nil, []api.Alarm{{Point: 1, Trap: api.TrapOver}}},
		{"int i; int j; i = -2147483647 - 1; j = -i - 3;", nil, []api.Alarm{{Point: 1, Trap: api.TrapOver}}},
		{"int i; i = 2147483647; i = i + 0;", []fint.Value{{Type: api.IntType, Int: api.MaxInt}}, nil},
		{"double x; x = -0.0;", []fint.Value{{Type: api.DoubleType}}, nil},
		{"double x; x = 0.0 / x; x = 1.0 / x;", nil, []api.Alarm{{Point: 0, Trap: api.TrapNan}}},
		{"int i; double x; x = 1.0 / x + double(1 / i);", nil, []api.Alarm{{Point: 0, Trap: api.TrapInf}}},
	} {
		u := unit(t, c.text)
		a := solved(t, u, enough)
		if !slices.Equal(a.Alarms, c.alarm) || a.End.Bottom() != (c.alarm != nil) || c.alarm == nil && !hasJust(a.End, c.cells) {
			t.Errorf("%s: %v, %v, %v", c.text, a.Alarms, a.End.Int(0), a.End.Float(0))
		}
	}
}

// P14.5: solved again all is the same, of a unit that is read anew, too.
func TestSolvedAgain(t *testing.T) {
	d := dice(5005)
	w := writer{&d}
	for range 400 {
		p, o := w.program(), w.options()
		u := checked(t, p)
		a := solved(t, u, o)
		if !isSame(a, solved(t, u, o)) || !isSame(a, solved(t, checked(t, p), o)) {
			t.Fatalf("%s%v: otherwise the second time", textOf(u), o)
		}
	}
}
