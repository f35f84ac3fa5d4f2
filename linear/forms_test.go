package linear_test

import (
	"math"
	"slices"
	"testing"

	"plumbline/api"
	"plumbline/linear"
)

func TestRight(t *testing.T) {
	for _, a := range append(rightForms(), whole, linear.Form{Whole: true, Terms: []linear.Term{}}) {
		if !linear.Right(a) || !linear.Same(a, a) {
			t.Errorf("%v is not right, or not the same", a)
		}
	}
	for _, a := range wrongForms() {
		if linear.Right(a) || linear.Same(a, a) {
			t.Errorf("%v is right, or the same", a)
		}
		if linear.Same(a, whole) || linear.Same(whole, a) || linear.Same(formOf(from(1, 1)), a) {
			t.Errorf("%v is the same as another one", a)
		}
	}
}

// P9.1: Same of two, each of which differs from the others in one thing.
func TestSame(t *testing.T) {
	one, two := from(1, 1), from(1, 2)
	l := []linear.Form{
		whole, {}, formOf(one), formOf(two), formOf(from(0, 0), term(0, one)), formOf(one, term(0, one)), formOf(one, term(1, one)), formOf(one, term(0, two)),
		formOf(one, term(0, one), term(1, one)), formOf(one, term(0, one), term(2, one)), formOf(one, term(0, one), term(1, two)),
	}
	for i, a := range l {
		for k, b := range l {
			b.Terms = slices.Clone(b.Terms)
			if linear.Same(a, b) != (i == k) {
				t.Errorf("Same(%v, %v) is not %v", a, b, i == k)
			}
		}
	}
	if !linear.Same(linear.Form{}, linear.Form{Terms: []linear.Term{}}) {
		t.Error("no terms are not the same as none")
	}
}

func TestOf(t *testing.T) {
	for _, a := range ranges() {
		if got := linear.Of(a); !sameForm(got, formOf(a)) {
			t.Errorf("Of(%v) = %v", a, got)
		}
	}
	for _, a := range append(wrongRanges(), none) {
		if got := linear.Of(a); !sameForm(got, whole) {
			t.Errorf("Of(%v) = %v", a, got)
		}
	}
}

func TestOfVar(t *testing.T) {
	for _, n := range []int{0, 1, 15, 16, 17, 1 << 40, math.MaxInt} {
		if got := linear.OfVar(n); !sameForm(got, formOf(from(0, 0), term(n, from(1, 1)))) {
			t.Errorf("OfVar(%d) = %v", n, got)
		}
	}
	for _, n := range []int{-1, -2, math.MinInt} {
		if got := linear.OfVar(n); !sameForm(got, whole) {
			t.Errorf("OfVar(%d) = %v", n, got)
		}
	}
}

func TestAdd(t *testing.T) {
	half := from(0x1p1023, 0x1p1023)
	minus, odd := from(-1, -1), from(1, 3)
	for _, c := range []struct{ a, b, want linear.Form }{
		{linear.Form{}, linear.Form{}, linear.Form{}},
		{formOf(from(1, 2)), formOf(from(3, 5)), formOf(from(4, 7))},
		{formOf(from(1, 2), term(1, odd)), formOf(from(3, 5)), formOf(from(4, 7), term(1, odd))},
		{formOf(from(0, 0), term(1, odd)), formOf(from(0, 0), term(0, minus)), formOf(from(0, 0), term(0, minus), term(1, odd))},
		{formOf(from(0, 0), term(0, odd), term(2, odd), term(3, odd)), formOf(from(0, 0), term(1, minus), term(2, minus), term(9, minus)), formOf(from(0, 0), term(0, odd), term(1, minus), term(2, from(0, 2)), term(3, odd), term(9, minus))},
		// What comes to 0 to 0 is left out; what only has 0 stays.
		{formOf(from(2, 2), term(0, from(1, 1)), term(4, odd)), formOf(from(-2, -2), term(0, minus), term(4, minus)), formOf(from(0, 0), term(4, from(0, 2)))},
		{formOf(from(0, 0), term(0, from(-1, 1))), formOf(from(0, 0), term(0, from(-1, 1))), formOf(from(0, 0), term(0, from(-2, 2)))},
		{formOf(from(0, 0), term(3, from(1, 1))), formOf(from(0, 0), term(3, minus)), linear.Form{}},
		{formOf(from(0, 0), term(math.MaxInt, from(1, 1))), formOf(from(0, 0), term(5, from(1, 1)), term(math.MaxInt, from(1, 1))), formOf(from(0, 0), term(5, from(1, 1)), term(math.MaxInt, from(2, 2)))},
		// Ends that are not finite.
		{formOf(half), formOf(half), whole},
		{formOf(from(-most, 0)), formOf(from(-1, 0)), whole},
		{formOf(from(0, 0), term(2, half)), formOf(from(0, 0), term(2, half)), whole},
		{formOf(from(0, 0), term(2, half)), formOf(from(0, 0), term(3, half)), formOf(from(0, 0), term(2, half), term(3, half))},
		{formOf(from(0, 0), term(0, from(1, 1)), term(2, from(-most, 1))), formOf(from(0, 0), term(2, from(-least, 1))), whole},
	} {
		if got := linear.Add(c.a, c.b); !sameForm(got, c.want) {
			t.Errorf("Add(%v, %v) = %v; want %v", c.a, c.b, got, c.want)
		}
		if got := linear.Add(c.b, c.a); !sameForm(got, c.want) {
			t.Errorf("Add(%v, %v) = %v; want %v", c.b, c.a, got, c.want)
		}
	}
}

// P9.2: more than MaxTerms are too many; those that are left out do not count.
func TestAddTooMany(t *testing.T) {
	full, zero := formOf(from(0, 0), manyTerms(0, api.MaxTerms)...), from(0, 0)
	if got := linear.Add(full, formOf(from(1, 1))); !sameForm(got, formOf(from(1, 1), full.Terms...)) {
		t.Errorf("a full form and 1: %v", got)
	}
	if got := linear.Add(full, full); len(got.Terms) != api.MaxTerms || got.Terms[api.MaxTerms-1].Coef != from(2, 4) {
		t.Errorf("a full form with itself: %v", got)
	}
	for _, n := range []int{api.MaxTerms, 100, math.MaxInt} {
		if got := linear.Add(full, linear.OfVar(n)); !sameForm(got, whole) {
			t.Errorf("a full form and another variable: %v", got)
		}
	}
	if got := linear.Add(formOf(zero, manyTerms(0, 8)...), formOf(zero, manyTerms(8, 8)...)); !sameForm(got, full) {
		t.Errorf("two halves: %v", got)
	}
	if got := linear.Add(formOf(zero, manyTerms(0, 8)...), formOf(zero, manyTerms(8, 9)...)); !sameForm(got, whole) {
		t.Errorf("two halves and one more: %v", got)
	}
	ones := formOf(zero)
	for n := range api.MaxTerms {
		ones.Terms = append(ones.Terms, term(n, from(1, 1)))
	}
	got := linear.Add(ones, formOf(zero, term(3, from(-1, -1)), term(16, from(1, 1))))
	if len(got.Terms) != api.MaxTerms || got.Whole || got.Terms[3].Var != 4 || got.Terms[15].Var != 16 {
		t.Errorf("one for another: %v", got)
	}
}

// P9.2: Whole, if one is not right or is Whole.
func TestWholeForms(t *testing.T) {
	for _, bad := range append(wrongForms(), whole) {
		for _, a := range append(append(rightForms(), wrongForms()...), whole) {
			for name, got := range map[string]linear.Form{
				"Add": linear.Add(a, bad), "Add back": linear.Add(bad, a), "Sub": linear.Sub(a, bad), "Sub back": linear.Sub(bad, a),
			} {
				if !sameForm(got, whole) {
					t.Errorf("%s of %v and %v: %v", name, a, bad, got)
				}
			}
		}
		if got := linear.Neg(bad); !sameForm(got, whole) {
			t.Errorf("Neg(%v) = %v", bad, got)
		}
		for _, by := range append(wrongRanges(), none, from(0, 0), from(1, 1), from(-2, 3)) {
			if got := linear.Scale(bad, by); !sameForm(got, whole) {
				t.Errorf("Scale(%v, %v) = %v", bad, by, got)
			}
			for _, f := range []api.Format{api.Double, api.Single, 7} {
				if got := linear.Blur(bad, f, by); !sameForm(got, whole) {
					t.Errorf("Blur(%v, %d, %v) = %v", bad, f, by, got)
				}
			}
		}
	}
}

func TestNeg(t *testing.T) {
	for _, c := range []struct{ a, want linear.Form }{
		{linear.Form{}, linear.Form{}},
		{formOf(from(1, 2)), formOf(from(-2, -1))},
		{formOf(from(-3, 2)), formOf(from(-2, 3))},
		{formOf(from(-3, -2)), formOf(from(2, 3))},
		{formOf(from(0, 2)), formOf(from(-2, 0))},
		{formOf(from(-2, 0)), formOf(from(0, 2))},
		{formOf(from(-most, least)), formOf(from(-least, most))},
		{formOf(from(1, 1), term(0, from(0, 1)), term(2, from(-1, 3)), term(3, from(-4, 0)), term(math.MaxInt, from(5, 5))), formOf(from(-1, -1), term(0, from(-1, 0)), term(2, from(-3, 1)), term(3, from(0, 4)), term(math.MaxInt, from(-5, -5)))},
	} {
		if got := linear.Neg(c.a); !sameForm(got, c.want) {
			t.Errorf("Neg(%v) = %v; want %v", c.a, got, c.want)
		}
		if got := linear.Neg(c.want); !sameForm(got, c.a) {
			t.Errorf("Neg(%v) = %v; want %v", c.want, got, c.a)
		}
	}
	full := formOf(from(0, 0), manyTerms(0, api.MaxTerms)...)
	if got := linear.Neg(full); len(got.Terms) != api.MaxTerms || got.Terms[15] != term(15, from(-2, -1)) {
		t.Errorf("Neg of a full form: %v", got)
	}
}

// P9.2: Sub is Add of a and Neg of b.
func TestSub(t *testing.T) {
	l := append(append(rightForms(), wrongForms()...), whole)
	for _, a := range l {
		for _, b := range l {
			if got, want := linear.Sub(a, b), linear.Add(a, linear.Neg(b)); !sameForm(got, want) {
				t.Errorf("Sub(%v, %v) = %v; want %v", a, b, got, want)
			}
		}
	}
	got := linear.Sub(formOf(from(1, 2), term(0, from(3, 3)), term(1, from(1, 1))), formOf(from(0, 5), term(0, from(1, 2)), term(1, from(1, 1)), term(2, from(1, 4))))
	if want := formOf(from(-4, 2), term(0, from(1, 2)), term(2, from(-4, -1))); !sameForm(got, want) {
		t.Errorf("%v; want %v", got, want)
	}
	if got := linear.Sub(formOf(from(most, most)), formOf(from(-1, -1))); !sameForm(got, whole) {
		t.Errorf("too great: %v", got)
	}
}

// Example 1: x - x has no terms, and is 0 to 0.
func TestExample(t *testing.T) {
	x := linear.OfVar(0)
	if got := linear.Sub(x, x); got.Whole || len(got.Terms) != 0 || got.Const != (api.FloatRange{}) {
		t.Errorf("x - x = %v", got)
	}
}

func TestScale(t *testing.T) {
	a := formOf(from(1, 2), term(0, from(-1, 3)), term(5, from(2, 2)))
	for _, c := range []struct {
		a    linear.Form
		by   api.FloatRange
		want linear.Form
	}{
		{linear.Form{}, from(3, 4), linear.Form{}},
		{a, from(1, 1), a},
		{a, from(2, 2), formOf(from(2, 4), term(0, from(-2, 6)), term(5, from(4, 4)))},
		{a, from(-1, -1), formOf(from(-2, -1), term(0, from(-3, 1)), term(5, from(-2, -2)))},
		{a, from(-1, 2), formOf(from(-2, 4), term(0, from(-3, 6)), term(5, from(-2, 4)))},
		{a, from(0, 1), formOf(from(0, 2), term(0, from(-1, 3)), term(5, from(0, 2)))},
		// All terms come to 0 to 0, and are left out.
		{a, from(0, 0), linear.Form{}},
		{formOf(from(0, 0), manyTerms(0, api.MaxTerms)...), from(0, 0), linear.Form{}},
		{formOf(from(0, 0), term(0, from(-most, most))), from(0, 0), linear.Form{}},
		// What is too small for a float is not left out.
		{formOf(from(0, 0), term(0, from(least, least))), from(0.25, 0.25), formOf(from(0, 0), term(0, from(0, least)))},
		{formOf(from(least, least), term(0, from(-least, -least))), from(least, least), formOf(from(0, least), term(0, from(-least, 0)))},
		// Ends that are not finite.
		{formOf(from(0, most)), from(2, 2), whole},
		{formOf(from(0, 1), term(0, from(1, 1)), term(3, from(-most, 0))), from(1, 2), whole},
		{formOf(from(0, 1), term(0, from(1, 1)), term(3, from(-most, 0))), from(-1, 1), formOf(from(-1, 1), term(0, from(-1, 1)), term(3, from(-most, most)))},
	} {
		if got := linear.Scale(c.a, c.by); !sameForm(got, c.want) {
			t.Errorf("Scale(%v, %v) = %v; want %v", c.a, c.by, got, c.want)
		}
	}
	for _, a := range rightForms() {
		for _, by := range append(wrongRanges(), none) {
			if got := linear.Scale(a, by); !sameForm(got, whole) {
				t.Errorf("Scale(%v, %v) = %v", a, by, got)
			}
		}
	}
}

// P9.2: each range of Add and Scale is the Sum, the Product of both's.
func TestEachRange(t *testing.T) {
	d := dice(521288629)
	coefOf := func(a linear.Form, n int) api.FloatRange {
		for _, t := range a.Terms {
			if t.Var == n {
				return t.Coef
			}
		}
		return api.FloatRange{}
	}
	for range 5000 {
		a, b, by := d.form(6), d.form(6), d.floatRange()
		sum, all := linear.Form{}, true
		scaled, every := linear.Form{}, true
		for n := -1; n < 6; n++ {
			x, y := coefOf(a, n), coefOf(b, n)
			if n < 0 {
				x, y = a.Const, b.Const
			}
			r, ok := trueSum(x, y)
			s, is := trueProduct(x, by)
			all, every = all && ok, every && is
			if n < 0 {
				sum.Const, scaled.Const = r, s
				continue
			}
			if r != from(0, 0) {
				sum.Terms = append(sum.Terms, term(n, r))
			}
			if s != from(0, 0) {
				scaled.Terms = append(scaled.Terms, term(n, s))
			}
		}
		if !all {
			sum = whole
		}
		if !every {
			scaled = whole
		}
		if got := linear.Add(a, b); !sameForm(got, sum) {
			t.Fatalf("Add(%v, %v) = %v; want %v", a, b, got, sum)
		}
		if got := linear.Scale(a, by); !sameForm(got, scaled) {
			t.Fatalf("Scale(%v, %v) = %v; want %v", a, by, got, scaled)
		}
	}
}
