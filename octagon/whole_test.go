package octagon_test

import (
	"slices"
	"testing"

	"plumbline/api"
	"plumbline/octagon"
)

// rule is a bound that was handed in.
type rule struct {
	a, b side
	c    int64
}

func (r rule) holds(l []int64) bool { return r.a.of(l)+r.b.of(l) <= r.c }

// number is one of the box, of any size.
func (d *dice) number() int64 {
	x := int64(d.next()) >> (30 + d.below(34))
	if d.below(5) == 0 {
		x = []int64{edge, -edge, api.MaxInt, api.MinInt, edge - 1}[d.below(5)]
	}
	return min(max(x, -edge), edge)
}

func (d *dice) point(n int) []int64 {
	var l []int64
	for range n {
		l = append(l, d.number())
	}
	return l
}

// witness is a point of o for which a and b come to their bound.
func witness(o *octagon.Oct, a, b side) []int64 {
	p := o.Fork()
	limit(p, a.other(), b.other(), -bound(o, a, b))
	var l []int64
	for v := range p.Vars() {
		x := bound(p, side{v, false}, side{v, false}) / 2
		limit(p, side{v, true}, side{v, true}, -2*x)
		l = append(l, x)
	}
	return l
}

// P10.6: each bound is that of a point, also of great octagons: the point is held against all that was handed in.
func TestTightFarOut(t *testing.T) {
	d := dice(1234567)
	for round := range 250 {
		n := 1 + round%api.MaxInts
		o, inside := octagon.New(n), d.point(n)
		var rules []rule
		for range 1 + d.below(3*n) {
			r := rule{a: d.side(n), b: d.side(n)}
			r.c = r.a.of(inside) + r.b.of(inside) + int64(d.below(3))
			if d.coin() {
				r.c += int64(d.next() >> 31)
			}
			r.c = min(r.c, 1<<35)
			if limit(o, r.a, r.b, r.c) != api.OK {
				t.Fatal(r)
			}
			rules = append(rules, r)
		}
		if o.Empty() || !o.Has(inside...) {
			t.Fatalf("%v is lost of %v", inside, rules)
		}
		for _, a := range sidesOf(n) {
			for _, b := range sidesOf(n) {
				l := witness(o, a, b)
				if !inBox(l) || a.of(l)+b.of(l) != bound(o, a, b) || slices.ContainsFunc(rules, func(r rule) bool { return !r.holds(l) }) {
					t.Fatalf("bound of %v and %v is %d, but not of %v: %v", a, b, bound(o, a, b), l, rules)
				}
			}
		}
	}
}

// P10.6: the laws that tight bounds keep.
func checkLaws(t *testing.T, o *octagon.Oct) {
	t.Helper()
	if o.Empty() {
		return
	}
	l := sidesOf(o.Vars())
	for _, a := range l {
		if bound(o, a, a)%2 != 0 || bound(o, a, a.other()) != 0 {
			t.Fatalf("of %v: %s", a, told(o))
		}
		for _, b := range l {
			if bound(o, a, b) != bound(o, b, a) || bound(o, a, b) > (bound(o, a, a)+bound(o, b, b))/2 {
				t.Fatalf("of %v and %v: %s", a, b, told(o))
			}
			for _, via := range l {
				if bound(o, a, b) > bound(o, a, via)+bound(o, via.other(), b) {
					t.Fatalf("of %v and %v over %v: %s", a, b, via, told(o))
				}
			}
		}
	}
}

// follow does a call that is any, and changes a point of the octagon as the words say; false: it has left the octagon.
func follow(d *dice, o *octagon.Oct, l []int64) bool {
	n := len(l)
	v := d.below(n)
	switch d.below(5) {
	case 0:
		a, b := d.side(n), d.side(n)
		c := a.of(l) + b.of(l) + int64(d.below(5)-1)
		limit(o, a, b, c)
		return a.of(l)+b.of(l) <= c
	case 1:
		x, y := min(max(d.number(), api.MinInt), api.MaxInt), min(max(l[v]+d.about(1), api.MinInt), api.MaxInt)
		a := ints(min(x, y), max(x, y))
		o.Set(v, a)
		return l[v] >= a.Lo && l[v] <= a.Hi
	case 2:
		o.Forget(v)
		l[v] = d.number()
	case 3:
		k, neg, c := d.below(n), d.coin(), d.number()
		if k == v {
			return o.Copy(v, k, neg, c) == api.ErrRange
		}
		o.Copy(v, k, neg, c)
		l[v] = side{k, neg}.of(l) + c
	case 4:
		neg, c := d.coin(), d.number()
		o.Shift(v, neg, c)
		l[v] = side{v, neg}.of(l) + c
	}
	return inBox(l)
}

// P10.5 (E4): a point is followed through many calls.
func TestPointsAreFollowed(t *testing.T) {
	d := dice(5)
	for round := range 400 {
		n := 1 + round%api.MaxInts
		o, l := octagon.New(n), d.point(n)
		for range 40 {
			before, was := o.Fork(), slices.Clone(l)
			stays := follow(&d, o, l)
			if o.Has(l...) != stays {
				t.Fatalf("%v becomes %v, which is in it: %v\n%s\n%s", was, l, o.Has(l...), told(before), told(o))
			}
			checkLaws(t, o)
			if !stays {
				// Go on where it still was, and put both together.
				o, l = before, was
				continue
			}
			if d.below(3) == 0 {
				o = mixed(t, &d, o, before, l)
			}
		}
	}
}

// mixed is one of what two octagons come to, in which a point of the first one is still.
func mixed(t *testing.T, d *dice, o, p *octagon.Oct, l []int64) *octagon.Oct {
	t.Helper()
	join, meet, widen := o.Join(p), o.Meet(p), o.Widen(p)
	for _, r := range []*octagon.Oct{join, meet, widen, p.Widen(o)} {
		checkLaws(t, r)
	}
	if !o.Within(join) || !p.Within(join) || !meet.Within(o) || !meet.Within(p) || !join.Within(widen) || !join.Within(p.Widen(o)) {
		t.Fatalf("of %s and %s: %s, %s, %s", told(o), told(p), told(join), told(meet), told(widen))
	}
	if meet.Has(l...) != p.Has(l...) {
		t.Fatalf("Meet has %v: %v", l, meet.Has(l...))
	}
	for _, r := range []*octagon.Oct{join, widen, p.Widen(o)} {
		if !r.Has(l...) {
			t.Fatalf("%v is lost of %s and %s: %s", l, told(o), told(p), told(r))
		}
	}
	if d.coin() {
		return join
	}
	return o
}
