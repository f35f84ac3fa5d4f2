package fint_test

import (
	"slices"
	"testing"

	"plumbline/api"
	"plumbline/fcheck"
	"plumbline/fint"
	"plumbline/fparse"
)

func checked(t *testing.T, p api.Program) *fcheck.Unit {
	t.Helper()
	u, e, at := fcheck.Check(p)
	if e != api.OK {
		t.Fatalf("%v: %d at %d", p, e, at)
	}
	return u
}

// Many programs do what the machine does.
func TestManyRuns(t *testing.T) {
	d := dice(88172645463325252)
	w := writer{&d}
	errors, traps, most := map[api.Errno]int{}, map[api.Trap]int{}, 0
	for range 40000 {
		p := w.program()
		script, steps := w.script(p), pick(&d, 3, 10, 60, 60, 60)
		want, errno := runByMachine(p, script, steps)
		r, e := fint.Run(checked(t, p), script, steps)
		if e != errno || !alike(r, want) {
			text, _ := fparse.Print(p)
			t.Fatalf("%s%v, %d:\n%v, %d; want\n%v, %d", text, script, steps, r, e, want, errno)
		}
		errors[e]++
		if e == api.OK {
			traps[r.Trap]++
			most = max(most, r.Steps)
		}
	}
	for _, e := range []api.Errno{api.OK, api.ErrScript, api.ErrSteps} {
		if errors[e] < 100 {
			t.Errorf("the error %d is told %d times only", e, errors[e])
		}
	}
	for trap := api.NoTrap; trap <= api.TrapIndex; trap++ {
		if traps[trap] < 30 {
			t.Errorf("the trap %d is told %d times only", trap, traps[trap])
		}
	}
	if most < 40 {
		t.Errorf("no run takes more than %d steps", most)
	}
}

// anyCells are right ones.
func anyCells(w writer) []fint.Value {
	var l []fint.Value
	for _, d := range vars() {
		for k := 0; k == 0 || k < d.Cells; k++ {
			switch d.Type {
			case api.IntType:
				l = append(l, whole(pick(w.dice, 0, 1, 2, 3, -1, -7, 46341, api.MinInt, api.MaxInt, int64(int32(w.next())))))
			case api.FloatType:
				l = append(l, single(pick(w.dice, 0, 0.1, -1.5, mostSingle, -leastHalf, 2147483648, float32(int32(w.next())))))
			default:
				l = append(l, double(pick(w.dice, 0, 0.1, -1.5, mostDouble, -leastOne, 2147483648, 1e30, float64(int32(w.next()))/7)))
			}
		}
	}
	return l
}

// Many expressions and conditions come to what the machine says.
func TestManyExpressions(t *testing.T) {
	d := dice(362436069)
	w := writer{&d}
	u := checked(t, api.Program{Decls: vars()})
	traps := map[api.Trap]int{}
	for range 40000 {
		cells := anyCells(w)
		m := modelOf(vars())
		for k, v := range cells {
			m.cells[k] = only(datumOf(v))
		}
		e := w.expr(w.anyType(), 4)
		x, trap := m.expr(e)
		want := x.value()
		if trap != api.NoTrap {
			want = fint.Value{}
		}
		if v, told, errno := fint.Eval(u, e, cells); v != want || told != trap || errno != api.OK {
			t.Fatalf("Eval(%v, %v) = %v, %d, %d; want %v, %d", e, cells, v, told, errno, want, trap)
		}
		traps[trap]++
		e = w.truth(5)
		holds, trap := m.cond(e)
		if got, told, errno := fint.Bool(u, e, cells); got != holds || told != trap || errno != api.OK {
			t.Fatalf("Bool(%v, %v) = %v, %d, %d; want %v, %d", e, cells, got, told, errno, holds, trap)
		}
	}
	for trap := api.NoTrap; trap <= api.TrapIndex; trap++ {
		if traps[trap] < 30 {
			t.Errorf("the trap %d is told %d times only", trap, traps[trap])
		}
	}
}

// P7.3: with more steps a run that ended ends as before; with fewer it takes more than those.
func TestMoreSteps(t *testing.T) {
	d := dice(521288629)
	w := writer{&d}
	for range 2000 {
		p := w.program()
		u, script := checked(t, p), w.script(p)
		want, e := fint.Run(u, script, 200)
		for _, more := range []int{201, 1000, api.MaxSteps} {
			if e != api.ErrSteps {
				if r, again := fint.Run(u, script, more); again != e || !alike(r, want) {
					t.Fatalf("%v: with %d steps %v, %d; want %v, %d", p, more, r, again, want, e)
				}
			}
		}
		if e != api.OK {
			continue
		}
		for steps := range want.Steps + 2 {
			r, e := fint.Run(u, script, steps)
			if enough := steps >= want.Steps; (e == api.OK) != enough || enough && !alike(r, want) || !enough && e != api.ErrSteps {
				t.Fatalf("%v: with %d steps %v, %d; want %v", p, steps, r, e, want)
			}
		}
	}
}

// P7.4, of many programs.
func TestMoreValues(t *testing.T) {
	d := dice(123456789)
	w := writer{&d}
	for range 2000 {
		p := w.program()
		u, script := checked(t, p), w.script(p)
		want, e := fint.Run(u, script, 60)
		if e == api.ErrScript {
			continue
		}
		more := append(slices.Clone(script), w.value(api.NoType), w.value(w.anyType()))
		if r, again := fint.Run(u, more, 60); e == api.OK && (again != e || !alike(r, want)) {
			t.Fatalf("%v: %v, %d; want %v, %d", p, r, again, want, e)
		}
	}
}

// What is told at each step is what Eval and Bool tell with the cells that are seen there (E2).
func TestStepByStep(t *testing.T) {
	d := dice(987654321)
	w := writer{&d}
	for range 2000 {
		p := w.program()
		u, script := checked(t, p), w.script(p)
		r, e := fint.Run(u, script, 60)
		if e != api.OK {
			continue
		}
		for k, s := range r.Seen {
			trap := api.NoTrap
			if k == len(r.Seen)-1 {
				trap = r.Trap
			}
			stmt, _ := u.At(s.Point)
			var told api.Trap
			switch {
			case stmt.Do == api.Assign && len(stmt.Index) == 0:
				_, told, e = fint.Eval(u, stmt.Value, s.Cells)
			case stmt.Do == api.If || stmt.Do == api.While:
				_, told, e = fint.Bool(u, stmt.Value, s.Cells)
			default:
				continue
			}
			if told != trap || e != api.OK {
				t.Fatalf("%v: step %d, %v: %d, %d; want %d", p, k, s, told, e, trap)
			}
		}
	}
}

// P3: what is handed in stays as it is, with the spare room behind it; what is told is the caller's.
func TestWhatIsHandedInStays(t *testing.T) {
	u := unit(t, "int i; int a[2]; read i in [0, 5]; while (i > 0) { a[i - i / 2 * 2] = i; i = i - 1; }")
	room := values(whole(3), whole(9), fint.Value{Type: 9, Int: 9, Bits: 9})
	before := slices.Clone(room)
	want, e := fint.Run(u, room[:1], 100)
	again, _ := fint.Run(u, room[:1], 100)
	if e != api.OK || !slices.Equal(room, before) || !alike(want, again) {
		t.Fatal(e, room)
	}
	for k := range again.Seen {
		cells := again.Seen[k].Cells
		spoil(cells)
		if !slices.Equal(again.Cells, want.Cells) || k+1 < len(want.Seen) && !alikeSeen(again.Seen[k+1], want.Seen[k+1]) {
			t.Fatalf("step %d lies in one room with another list", k)
		}
	}
	spoil(again.Cells)
	clear(again.Seen[:cap(again.Seen)])
	if r, _ := fint.Run(u, room[:1], 100); !alike(r, want) || !slices.Equal(room, before) {
		t.Error(r)
	}
	cells := append(slices.Clone(want.Seen[1].Cells), whole(77))
	kept, e2 := slices.Clone(cells), tree(t, "a[i - i] + i")
	if v, _, e := fint.Eval(u, e2, cells[:3]); v != whole(3) || e != api.OK || !slices.Equal(cells, kept) {
		t.Error(v, e, cells)
	}
	spoil(cells)
	if v, _, e := fint.Eval(u, e2, kept[:3]); v != whole(3) || e != api.OK {
		t.Error(v, e)
	}
}

// spoil writes over a list, with the spare room behind it.
func spoil(l []fint.Value) {
	l = l[:cap(l)]
	for k := range l {
		l[k] = fint.Value{Type: 8, Int: 8, Bits: 8}
	}
}

// The unit stays as it is, too.
func TestUnitsStay(t *testing.T) {
	d := dice(7)
	w := writer{&d}
	for range 200 {
		p := w.program()
		u, script := checked(t, p), w.script(p)
		first, e := fint.Run(u, script, 60)
		second, again := fint.Run(u, script, 60)
		if e != again || !alike(first, second) || !fparse.Same(u.Program(), p) {
			t.Fatalf("%v, %d; then %v, %d", first, e, second, again)
		}
	}
}
