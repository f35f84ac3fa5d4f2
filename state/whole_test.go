package state_test

import (
	"slices"
	"strings"
	"testing"

	"plumbline/api"
	"plumbline/fcheck"
	"plumbline/fint"
	"plumbline/state"
)

// programs of all kinds: without ints, with more than an octagon has room for, with arrays between.
func programs() []string {
	var many []string
	for n := range api.MaxVars {
		many = append(many, "int v"+string('a'+rune(n))+";")
	}
	return []string{
		every, "int i;", "double x; float y;", "int a[4]; double b[3];", "int i; int k; int n;", strings.Join(many, ""),
		"int a[2]; int b; int c[64]; int d; double e; int f; int g; int h; int i; int j; int k; int l; int m; int n[1]; int o;",
	}
}

// walk is a state, and a row of cells that fits it, which are followed through calls.
type walk struct {
	*dice
	u     *fcheck.Unit
	decls []api.Decl
	s     *state.State
	cells []fint.Value
}

func walkOf(t *testing.T, d *dice, text string) *walk {
	u := unit(t, text)
	w := &walk{dice: d, u: u, decls: u.Vars(), s: state.First(u), cells: zeros(u)}
	if d.coin() {
		w.s = state.Top(u)
		for k, c := range w.cells {
			w.cells[k] = d.valueOf(c.Type)
		}
	}
	return w
}

// plain are the ints that are no arrays.
func (w *walk) plain() []int {
	var l []int
	for v, x := range w.decls {
		if x.Type == api.IntType && x.Cells == 0 {
			l = append(l, v)
		}
	}
	return l
}

func (w *walk) cell(v int) *fint.Value {
	first, _ := placeOf(w.u, v)
	return &w.cells[first]
}

// step does a call, and changes the cells as the words say; the state stays, where the call would not have these cells.
func (w *walk) step() string {
	v := w.below(len(w.decls))
	ints := w.plain()
	switch kind := w.below(7); {
	case kind <= 1:
		w.set(v)
		return "Set"
	case kind == 2:
		w.less(v)
		return "Less"
	case kind == 3 && len(ints) > 0:
		w.copy(pick(w.dice, ints...), pick(w.dice, ints...))
		return "CopyInt"
	case kind == 4 && len(ints) > 0:
		w.relate(pick(w.dice, ints...), pick(w.dice, ints...))
		return "Relate"
	}
	return w.put()
}

func (w *walk) set(v int) {
	weak, t := w.coin(), w.decls[v].Type
	first, many := placeOf(w.u, v)
	value := w.valueOf(t)
	a, b := w.around(value.Int), w.aroundFloat(t, value.Bits)
	if t == api.IntType {
		w.s = w.s.SetInt(v, a, weak)
	} else {
		w.s = w.s.SetFloat(v, b, weak)
	}
	for k := range many {
		// One at least, unless it is weak: then all may stay.
		if (many > 1 || weak) && w.coin() {
			continue
		}
		if t == api.IntType {
			w.cells[first+k] = whole(w.inside(a))
		} else {
			w.cells[first+k] = fint.Value{Type: t, Bits: w.floatIn(t, b)}
		}
	}
}

// less leaves out by a range that has all cells of a variable.
func (w *walk) less(v int) {
	t := w.decls[v].Type
	first, many := placeOf(w.u, v)
	a, b := w.around(w.cells[first].Int), w.aroundFloat(t, w.cells[first].Bits)
	for _, c := range w.cells[first : first+many] {
		a = hull(a, c.Int)
		x := keyOf(t, c.Bits)
		b = api.FloatRange{Lo: floatAt(t, min(x, keyOf(t, b.Lo))), Hi: floatAt(t, max(x, keyOf(t, b.Hi)))}
	}
	if t == api.IntType {
		w.s = w.s.LessInt(v, a)
	} else {
		w.s = w.s.LessFloat(v, b)
	}
}

func (w *walk) copy(v, from int) {
	neg, c := w.coin(), w.number()>>w.below(31)
	value := signed(w.cell(from).Int, neg) + c
	if value < api.MinInt || value > api.MaxInt {
		w.s.CopyInt(v, from, neg, c)
		return
	}
	w.s = w.s.CopyInt(v, from, neg, c)
	w.cell(v).Int = value
}

func (w *walk) relate(v, other int) {
	nv, nw := w.coin(), w.coin()
	c := signed(w.cell(v).Int, nv) + signed(w.cell(other).Int, nw) + pick[int64](w.dice, 0, 0, 1, 5, 1000)
	w.s = w.s.Relate(v, nv, other, nw, c)
}

// put puts the state together with another one; the cells are those of one of both.
func (w *walk) put() string {
	other := *w
	other.cells = slices.Clone(w.cells)
	for range w.below(4) {
		other.set(w.below(len(w.decls)))
	}
	if w.coin() {
		w.cells = other.cells
	}
	switch w.below(4) {
	case 0:
		w.s = w.s.Widen(other.s, w.number(), w.number())
		return "Widen"
	case 1:
		w.s = other.s.Widen(w.s)
		return "Widen"
	}
	w.s = w.s.Join(other.s)
	return "Join"
}

// P11.5 (E4): cells are followed through many calls; P3, P4: none of the states on the way is changed.
func TestCellsAreFollowed(t *testing.T) {
	d := dice(31337)
	for _, text := range programs() {
		for range 60 {
			w := walkOf(t, &d, text)
			var states []*state.State
			var as []told
			var rows [][]fint.Value
			for range 25 {
				what := w.step()
				if !w.s.Has(w.cells) {
					t.Fatalf("%s: behind %s the cells %v are lost", text, what, w.cells)
				}
				checkRight(t, w.u, w.s)
				states, as, rows = append(states, w.s), append(as, tell(w.s)), append(rows, slices.Clone(w.cells))
			}
			for k, s := range states {
				if tell(s) != as[k] || !s.Has(rows[k]) {
					t.Fatalf("%s: the state behind %d calls was changed", text, k+1)
				}
			}
		}
	}
}

// P11.6 (E6): a state all of whose ranges are of one number has just these cells.
func TestOneNumberEach(t *testing.T) {
	d := dice(4242)
	for _, text := range programs() {
		for range 30 {
			w := walkOf(t, &d, text)
			for range 6 {
				w.step()
			}
			s, cells := w.s, zeros(w.u)
			for v, x := range w.decls {
				first, many := placeOf(w.u, v)
				value := fint.Value{Type: x.Type}
				if x.Type == api.IntType {
					value.Int = d.inside(s.Int(v))
					s = s.LessInt(v, ints(value.Int, value.Int))
				} else {
					value.Bits = d.floatIn(x.Type, s.Float(v))
					s = s.LessFloat(v, api.FloatRange{Lo: value.Bits, Hi: value.Bits})
				}
				for k := range many {
					cells[first+k] = value
				}
			}
			// Each number of a tight range is one of some cells, so that something is left.
			if s.Bottom() || !s.Has(cells) {
				t.Fatalf("%s: the only cells %v do not fit", text, cells)
			}
			checkNoOthers(t, &d, s, cells)
		}
	}
}

func checkNoOthers(t *testing.T, d *dice, s *state.State, cells []fint.Value) {
	t.Helper()
	for k, c := range cells {
		other := d.valueOf(c.Type)
		if other != c && s.Has(with(cells, k, other)) {
			t.Fatalf("beside %v the cell %d may be %v", cells, k, other)
		}
	}
}

// P3: cells and thresholds that are handed in stay as they are, the room behind them too; and Has hangs on nothing else.
func TestWhatIsHandedIn(t *testing.T) {
	u := unit(t, every)
	s := state.Top(u).Relate(i, false, j, true, 0)
	room := append(zeros(u), whole(5), whole(6))
	cells := room[:len(room)-2]
	was := slices.Clone(room)
	for range 2 {
		if !s.Has(cells) {
			t.Error("Has of cells with room behind them")
		}
	}
	thresholds := []int64{9, -9, 4, 7}
	s.Widen(state.First(u), thresholds[:3]...)
	state.First(u).Widen(s, thresholds[:2]...)
	if !slices.Equal(room, was) || !slices.Equal(thresholds, []int64{9, -9, 4, 7}) {
		t.Error("what is handed in was changed")
	}
}
