package judge_test

import (
	"testing"

	"plumbline/api"
	"plumbline/fint"
	"plumbline/judge"
	"plumbline/span"
	"plumbline/state"
)

// has tells whether a value lies in what is known.
func has(v judge.Value, x fint.Value) bool {
	if v.Type != x.Type {
		return false
	}
	if x.Type == api.IntType {
		return span.IntHas(v.Int, x.Int)
	}
	return span.Has(formatOf(x.Type), v.Float, x.Bits)
}

// isShaped tells whether what is told is right, and the other range is Empty.
func isShaped(v judge.Value, t api.Type) bool {
	return v.Type == t && span.IntRight(v.Int) && span.Right(formatOf(t), v.Float) && (t == api.IntType || v.Int.Empty) && (t != api.IntType || v.Float.Empty)
}

// P12.1, P12.5 (E4): what expressions come to, of cells that are drawn to fit, lies in what is told, or is a trap that is told.
func TestEvalIsSound(t *testing.T) {
	u := unit(t, every)
	d := dice(20261117)
	w := writer{&d}
	values, trapped := 0, 0
	for range 12000 {
		s, cells := d.stateOf(u)
		kind := pick(&d, api.IntType, api.FloatType, api.DoubleType)
		x := w.expr(kind, 2+d.below(4))
		v, traps := judge.Eval(u, s, x)
		if !isShaped(v, kind) {
			t.Fatalf("%v: %v", x, v)
		}
		for n := range 5 {
			if n > 0 {
				cells = d.draw(u, s)
			}
			value, trap, e := fint.Eval(u, x, cells)
			switch {
			case e != api.OK:
				t.Fatal(e)
			case trap == api.NoTrap && !has(v, value):
				t.Fatalf("%v with %v is %v, not in %v", x, cells, value, v)
			case trap == api.NoTrap:
				values++
			case traps&trapsOf(trap) == 0:
				t.Fatalf("%v with %v traps by %d, not in %d", x, cells, trap, traps)
			default:
				trapped++
			}
		}
	}
	if values < 1000 || trapped < 1000 {
		t.Error("too few values, or too few traps:", values, trapped)
	}
}

// P12.2 (E6): of one row of cells just the value is told, or just the trap.
func TestEvalOfOneRow(t *testing.T) {
	u := unit(t, every)
	d := dice(606)
	w := writer{&d}
	for range 15000 {
		s, cells := d.one(u)
		kind := pick(&d, api.IntType, api.FloatType, api.DoubleType)
		x := w.expr(kind, 2+d.below(4))
		v, traps := judge.Eval(u, s, x)
		value, trap, _ := fint.Eval(u, x, cells)
		want, wantTraps := judge.Value{Type: kind, Int: noInts, Float: noFloats}, api.Traps(0)
		switch {
		case trap != api.NoTrap:
			wantTraps = trapsOf(trap)
		case kind == api.IntType:
			want.Int = ints(value.Int, value.Int)
		default:
			want.Float = api.FloatRange{Lo: value.Bits, Hi: value.Bits}
		}
		if v != want || traps != wantTraps {
			t.Fatalf("%v with %v: %v, %d; want %v, %d", x, cells, v, traps, want, wantTraps)
		}
	}
}

// P12.3, P12.5 (E4): cells of which a condition holds, or does not, are kept; what traps is told; nothing comes in.
func TestTestIsSound(t *testing.T) {
	u := unit(t, every)
	d := dice(3000017)
	w := writer{&d}
	kept := [2]int{}
	for range 8000 {
		s, cells := d.stateOf(u)
		was := tell(s)
		x := w.truth(2 + d.below(5))
		var told [2]*state.State
		var traps [2]api.Traps
		told[0], traps[0] = judge.Test(u, s, x, false)
		told[1], traps[1] = judge.Test(u, s, x, true)
		if !told[0].Within(s) || !told[1].Within(s) || tell(s) != was {
			t.Fatalf("%v: what is told is not within, or the state was changed", x)
		}
		for n := range 5 {
			if n > 0 {
				cells = d.draw(u, s)
			}
			holds, trap, e := fint.Bool(u, x, cells)
			k := 0
			if holds {
				k = 1
			}
			switch {
			case e != api.OK:
				t.Fatal(e)
			case trap == api.NoTrap && !told[k].Has(cells):
				t.Fatalf("%v with %v is %v, but the cells are lost", x, cells, holds)
			case trap == api.NoTrap:
				kept[k]++
			case traps[0]&traps[1]&trapsOf(trap) == 0:
				t.Fatalf("%v with %v traps by %d, not in %d and %d", x, cells, trap, traps[0], traps[1])
			}
		}
	}
	if kept[0] < 1000 || kept[1] < 1000 {
		t.Error("too few that hold, or that do not:", kept)
	}
}

// P12.3: of one row of cells what does not hold leaves nothing; a trap is told alone.
func TestTestOfOneRow(t *testing.T) {
	u := unit(t, every)
	d := dice(8080)
	w := writer{&d}
	for range 10000 {
		s, cells := d.one(u)
		x := w.truth(2 + d.below(5))
		answer, trap, _ := fint.Bool(u, x, cells)
		for _, holds := range []bool{true, false} {
			r, traps := judge.Test(u, s, x, holds)
			left := trap == api.NoTrap && answer == holds
			if r.Bottom() == left || r.Has(cells) != left || left && !r.Same(s) {
				t.Fatalf("%v with %v is %v, trap %d: of %v something is left: %v", x, cells, answer, trap, holds, !r.Bottom())
			}
			if trap == api.NoTrap && traps != 0 || trap != api.NoTrap && traps != trapsOf(trap) {
				t.Fatalf("%v with %v has the trap %d, and %d is told", x, cells, trap, traps)
			}
		}
	}
}

// What is handed in stays as it is; asked again all is the same.
func TestAskedAgain(t *testing.T) {
	u := unit(t, every)
	s := state.Top(u).LessInt(i, ints(0, 5)).LessFloat(d, doubles(0, 1))
	was := tell(s)
	room := append(node(api.Add, variable("i"), constant("1")).Kids, variable("j"))
	x := api.Expr{Op: api.Add, Kids: room[:2]}
	for range 3 {
		if v, traps := judge.Eval(u, s, x); v != intValue(ints(1, 6)) || traps != 0 {
			t.Error(v, traps)
		}
		r, _ := judge.Test(u, s, node(api.Lt, x, constant("3")), true)
		if r.Int(i) != ints(0, 1) || tell(s) != was {
			t.Error(r.Int(i))
		}
	}
	if room[0].Text != "i" || room[1].Text != "1" || room[2].Text != "j" {
		t.Error("what is handed in was changed")
	}
}
