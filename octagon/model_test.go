package octagon_test

import (
	"fmt"
	"slices"
	"testing"

	"plumbline/api"
	"plumbline/octagon"
)

const edge = 1 << 33

// side is a variable, negated or not.
type side struct {
	v   int
	neg bool
}

func (a side) of(l []int64) int64 {
	if a.neg {
		return -l[a.v]
	}
	return l[a.v]
}

func (a side) other() side { return side{a.v, !a.neg} }

func sidesOf(n int) []side {
	var l []side
	for v := range n {
		l = append(l, side{v, false}, side{v, true})
	}
	return l
}

func bound(o *octagon.Oct, a, b side) int64 { return o.Bound(a.v, a.neg, b.v, b.neg) }

func limit(o *octagon.Oct, a, b side, c int64) api.Errno {
	return o.Limit(a.v, a.neg, b.v, b.neg, c)
}

// told is all that an octagon tells by its bounds.
func told(o *octagon.Oct) string {
	text := fmt.Sprint(o.Vars(), o.Empty())
	for _, a := range sidesOf(o.Vars()) {
		text += fmt.Sprint(" ", o.Range(a.v))
		for _, b := range sidesOf(o.Vars()) {
			text += fmt.Sprint(" ", bound(o, a, b))
		}
	}
	return text
}

func ints(lo, hi int64) api.IntRange { return api.IntRange{Lo: lo, Hi: hi} }

var noInts = api.IntRange{Empty: true}

// drained is one without points.
func drained(n int) *octagon.Oct {
	o := octagon.New(n)
	o.Set(0, noInts)
	return o
}

// dice are numbers that look like chance but are always the same.
type dice uint64

func (d *dice) next() uint64 {
	*d ^= *d << 13
	*d ^= *d >> 7
	*d ^= *d << 17
	return uint64(*d) * 0x2545f4914f6cdd1d
}

func (d *dice) below(n int) int { return int(d.next() >> 33 % uint64(n)) }

func (d *dice) coin() bool { return d.below(2) == 0 }

// about is a number at most so far from 0.
func (d *dice) about(far int) int64 { return int64(d.below(2*far+1) - far) }

func (d *dice) side(n int) side { return side{d.below(n), d.coin()} }

// model is an octagon, and all of its points, one by one.
type model struct {
	o      *octagon.Oct
	n      int
	points [][]int64
}

func inBox(l []int64) bool {
	return !slices.ContainsFunc(l, func(x int64) bool { return x < -edge || x > edge })
}

// modelOf is all points that are at most 2 from a middle in each variable.
func modelOf(t *testing.T, middle []int64) model {
	m := model{o: octagon.New(len(middle)), n: len(middle), points: [][]int64{nil}}
	for v, x := range middle {
		var longer [][]int64
		for _, l := range m.points {
			for y := max(x-2, -edge); y <= min(x+2, edge); y++ {
				longer = append(longer, append(slices.Clone(l), y))
			}
		}
		m.points = longer
		if limit(m.o, side{v, false}, side{v, false}, 2*(x+2)) != api.OK || limit(m.o, side{v, true}, side{v, true}, 2*(2-x)) != api.OK {
			t.Fatal("a limit has an error")
		}
	}
	return m
}

// leave takes out all points that do not fit.
func (m *model) leave(fits func(l []int64) bool) {
	var left [][]int64
	for _, l := range m.points {
		if fits(l) {
			left = append(left, l)
		}
	}
	m.points = left
}

// change puts other values for a variable into all points: once each, and what leaves the box is left out.
func (m *model) change(v int, to func(l []int64) []int64) {
	var after [][]int64
	seen := map[string]int{}
	for _, l := range m.points {
		for _, x := range to(l) {
			changed := slices.Clone(l)
			changed[v] = x
			key := fmt.Sprint(changed)
			if seen[key]++; seen[key] == 1 && inBox(changed) {
				after = append(after, changed)
			}
		}
	}
	m.points = after
}

func (m *model) fork() model { return model{o: m.o.Fork(), n: m.n, points: m.points} }

// check holds all that the octagon tells against its points.
func (m *model) check(t *testing.T, what string) {
	t.Helper()
	if m.o.Empty() != (len(m.points) == 0) || m.o.Vars() != m.n {
		t.Fatalf("%s: Empty is %v of %d points", what, m.o.Empty(), len(m.points))
	}
	for _, a := range sidesOf(m.n) {
		for _, b := range sidesOf(m.n) {
			most := int64(-api.Far)
			for _, l := range m.points {
				most = max(most, a.of(l)+b.of(l))
			}
			if got := bound(m.o, a, b); got != most {
				t.Fatalf("%s: bound of %v and %v is %d, not %d", what, a, b, got, most)
			}
		}
	}
	for v := range m.n {
		if got, want := m.o.Range(v), m.rangeOf(v); got != want {
			t.Fatalf("%s: range of %d is %v, not %v", what, v, got, want)
		}
	}
	m.checkHas(t, what)
}

// rangeOf is from the least int of 32 bits that a variable is in a point to the greatest one.
func (m *model) rangeOf(v int) api.IntRange {
	all := noInts
	for _, l := range m.points {
		switch x := l[v]; {
		case x < api.MinInt || x > api.MaxInt:
		case all.Empty:
			all = ints(x, x)
		default:
			all = ints(min(all.Lo, x), max(all.Hi, x))
		}
	}
	return all
}

// checkHas asks for all points, and for what stands beside them.
func (m *model) checkHas(t *testing.T, what string) {
	t.Helper()
	all := map[string]int{}
	for _, l := range m.points {
		all[fmt.Sprint(l)] = 1
	}
	for _, l := range m.points {
		if !m.o.Has(l...) {
			t.Fatalf("%s: %v is lost", what, l)
		}
		for v := range l {
			for _, by := range []int64{-1, 1} {
				beside := slices.Clone(l)
				beside[v] += by
				if m.o.Has(beside...) != (all[fmt.Sprint(beside)] == 1) {
					t.Fatalf("%s: Has %v is %v", what, beside, m.o.Has(beside...))
				}
			}
		}
	}
}

// step does a call that is any, and the same with the points.
func (m *model) step(t *testing.T, d *dice, middle []int64) string {
	t.Helper()
	v, e, what := d.below(m.n), api.OK, ""
	switch d.below(6) {
	case 0, 1:
		a, b := d.side(m.n), d.side(m.n)
		c := a.of(middle) + b.of(middle) + d.about(4)
		if a == b.other() {
			c = d.about(2)
		}
		what = fmt.Sprint("Limit ", a, b, c)
		e = limit(m.o, a, b, c)
		m.leave(func(l []int64) bool { return a.of(l)+b.of(l) <= c })
	case 2:
		x := min(max(middle[v]+d.about(3), api.MinInt), api.MaxInt)
		a := ints(x, min(x+int64(d.below(4)), api.MaxInt))
		what = fmt.Sprint("Set ", v, a)
		e = m.o.Set(v, a)
		m.leave(func(l []int64) bool { return l[v] >= a.Lo && l[v] <= a.Hi })
	case 3:
		what = fmt.Sprint("Forget ", v)
		e = m.forget(t, v, middle[v])
	case 4:
		k, neg, c := d.below(m.n), d.coin(), d.about(2)
		if d.coin() {
			c = d.about(1) * edge
		}
		if k == v {
			break
		}
		what = fmt.Sprint("Copy ", v, k, neg, c)
		e = m.o.Copy(v, k, neg, c)
		m.change(v, func(l []int64) []int64 { return []int64{side{k, neg}.of(l) + c} })
	case 5:
		neg, c := d.coin(), d.about(2)
		if d.below(4) == 0 {
			c = d.about(1) * edge
		}
		what = fmt.Sprint("Shift ", v, neg, c)
		e = m.o.Shift(v, neg, c)
		m.change(v, func(l []int64) []int64 { return []int64{side{v, neg}.of(l) + c} })
	}
	if e != api.OK {
		t.Fatalf("%s has the error %d", what, e)
	}
	return what
}

// forget lets a variable be anything, sees to its bounds, and takes it back to near a middle.
func (m *model) forget(t *testing.T, v int, middle int64) api.Errno {
	t.Helper()
	old := m.o.Fork()
	e := m.o.Forget(v)
	for _, a := range sidesOf(m.n) {
		for _, b := range sidesOf(m.n) {
			want := bound(old, a, b)
			switch {
			case old.Empty():
			case a.v == v && a == b.other():
				want = 0
			case a.v == v && b.v == v:
				want = 2 * edge
			case a.v == v:
				want = edge + bound(old, b, b)/2
			case b.v == v:
				want = edge + bound(old, a, a)/2
			}
			if got := bound(m.o, a, b); got != want {
				t.Fatalf("Forget %d: bound of %v and %v is %d, not %d", v, a, b, got, want)
			}
		}
	}
	limit(m.o, side{v, false}, side{v, false}, 2*(middle+2))
	limit(m.o, side{v, true}, side{v, true}, 2*(2-middle))
	var all []int64
	for x := middle - 2; x <= middle+2; x++ {
		all = append(all, x)
	}
	m.change(v, func([]int64) []int64 { return all })
	return e
}

// middles are places for models: about 0, at the ends of ints, and at the box's ends.
func (d *dice) middle(n int) []int64 {
	var l []int64
	for range n {
		l = append(l, []int64{0, 0, 0, api.MaxInt, api.MinInt, edge, -edge, edge - 1}[d.below(8)])
	}
	if d.coin() {
		clear(l)
	}
	return l
}

// P10.2, P10.3, P10.5, P10.6: each call against all points, one by one.
func TestAllPoints(t *testing.T) {
	d := dice(88172645463325252)
	for range 1500 {
		middle := d.middle(1 + d.below(3))
		m := modelOf(t, middle)
		m.check(t, "first")
		for range 12 {
			m.check(t, m.step(t, &d, middle))
		}
	}
}

// P10.6: the same of four variables, that are limited alone.
func TestAllPointsOfFour(t *testing.T) {
	d := dice(362436069)
	for range 150 {
		middle := make([]int64, 4)
		m := modelOf(t, middle)
		for range 7 {
			a, b := d.side(4), d.side(4)
			c := d.about(3)
			if a == b.other() {
				continue
			}
			limit(m.o, a, b, c)
			m.leave(func(l []int64) bool { return a.of(l)+b.of(l) <= c })
			m.check(t, fmt.Sprint("Limit ", a, b, c))
		}
	}
}

// rebuilt is the box with bounds that are handed in one by one.
func rebuilt(n int, by func(a, b side) int64) *octagon.Oct {
	o := octagon.New(n)
	for _, a := range sidesOf(n) {
		for _, b := range sidesOf(n) {
			limit(o, a, b, by(a, b))
		}
	}
	return o
}

// P10.4, P10.7: Join, Meet, Widen and Within of two models.
func TestPutTogether(t *testing.T) {
	d := dice(521288629)
	for range 1500 {
		middle := d.middle(1 + d.below(3))
		m, p := modelOf(t, middle), modelOf(t, middle)
		for range d.below(5) {
			m.step(t, &d, middle)
		}
		if d.coin() {
			p = m.fork()
		}
		for range d.below(5) {
			p.step(t, &d, middle)
		}
		was := told(m.o) + told(p.o)
		checkJoin(t, m, p)
		checkMeet(t, m, p)
		checkWiden(t, m, p)
		has := map[string]int{}
		for _, l := range p.points {
			has[fmt.Sprint(l)] = 1
		}
		within := !slices.ContainsFunc(m.points, func(l []int64) bool { return has[fmt.Sprint(l)] == 0 })
		if m.o.Within(p.o) != within {
			t.Fatalf("Within is not %v: %s, %s", within, told(m.o), told(p.o))
		}
		if told(m.o)+told(p.o) != was {
			t.Fatalf("%s has changed: %s", was, told(m.o)+told(p.o))
		}
	}
}

func checkJoin(t *testing.T, m, p model) {
	t.Helper()
	j := m.o.Join(p.o)
	for _, a := range sidesOf(m.n) {
		for _, b := range sidesOf(m.n) {
			// Of an Empty one it is -Far, below all others.
			if got, want := bound(j, a, b), max(bound(m.o, a, b), bound(p.o, a, b)); got != want {
				t.Fatalf("Join: bound of %v and %v is %d, not %d", a, b, got, want)
			}
		}
	}
	for _, l := range append(slices.Clone(m.points), p.points...) {
		if !j.Has(l...) {
			t.Fatalf("Join has lost %v", l)
		}
	}
	if !m.o.Within(j) || !p.o.Within(j) || told(p.o.Join(m.o)) != told(j) {
		t.Fatalf("Join of %s and %s: %s", told(m.o), told(p.o), told(j))
	}
	// It is one as others are: what is left of it is tight, too.
	if again := rebuilt(m.n, func(a, b side) int64 { return bound(j, a, b) }); !j.Empty() && told(again) != told(j) {
		t.Fatalf("Join is %s, but its bounds come to %s", told(j), told(again))
	}
}

func checkMeet(t *testing.T, m, p model) {
	t.Helper()
	has := map[string]int{}
	for _, l := range p.points {
		has[fmt.Sprint(l)] = 1
	}
	both := model{o: m.o.Meet(p.o), n: m.n, points: m.points}
	both.leave(func(l []int64) bool { return has[fmt.Sprint(l)] == 1 })
	both.check(t, "Meet")
	if !both.o.Within(m.o) || !both.o.Within(p.o) || told(p.o.Meet(m.o)) != told(both.o) {
		t.Fatalf("Meet of %s and %s: %s", told(m.o), told(p.o), told(both.o))
	}
}

func checkWiden(t *testing.T, m, p model) {
	t.Helper()
	w := m.o.Widen(p.o)
	want := rebuilt(m.n, func(a, b side) int64 {
		if bound(m.o, a, b) < bound(p.o, a, b) {
			return 2 * edge
		}
		return bound(m.o, a, b)
	})
	if m.o.Empty() {
		want = p.o
	}
	if p.o.Empty() {
		want = m.o
	}
	if told(w) != told(want) {
		t.Fatalf("Widen of %s by %s: %s, not %s", told(m.o), told(p.o), told(w), told(want))
	}
	if !m.o.Join(p.o).Within(w) {
		t.Fatalf("Widen of %s by %s: %s has not their Join", told(m.o), told(p.o), told(w))
	}
}
