package linear_test

import (
	"math/big"
	"slices"
	"testing"

	"plumbline/api"
	"plumbline/linear"
)

// P9.4 (E4): numbers of forms come to numbers of what is told of them.
func TestSound(t *testing.T) {
	d := dice(31)
	for range 5000 {
		a, b, by := d.form(4), d.form(4), d.floatRange()
		var vars []api.FloatRange
		var values []*big.Rat
		for range 4 {
			vars = append(vars, d.floatRange())
			values = append(values, d.within(vars[len(vars)-1]))
		}
		x, y, s := d.draw(a, values), d.draw(b, values), d.within(by)
		for _, c := range []struct {
			name string
			form linear.Form
			x    *big.Rat
		}{
			{"a", a, x}, {"Add", linear.Add(a, b), plus(x, y)}, {"Sub", linear.Sub(a, b), new(big.Rat).Sub(x, y)},
			{"Neg", linear.Neg(a), new(big.Rat).Neg(x)}, {"Scale", linear.Scale(a, by), times(x, s)},
		} {
			if !linear.Right(c.form) || !isNumber(c.form, values, c.x) {
				t.Fatalf("%s of %v, %v and %v: %v has lost %v", c.name, a, b, by, c.form, c.x)
			}
			r, ok := linear.Eval(c.form, vars...)
			if ok && (r.Empty || lo(r).Cmp(c.x) > 0 || hi(r).Cmp(c.x) < 0) {
				t.Fatalf("Eval of %v, %v: %v has lost %v", c.form, vars, r, c.x)
			}
		}
	}
}

// P9.6: Add does not hang on the order.
func TestAddInAnyOrder(t *testing.T) {
	d := dice(77)
	l := append(append(rightForms(), wrongForms()...), whole)
	for range 60 {
		l = append(l, d.form(9))
	}
	for _, a := range l {
		for _, b := range l {
			if x, y := linear.Add(a, b), linear.Add(b, a); !sameForm(x, y) || !linear.Same(x, y) {
				t.Fatalf("Add(%v, %v) = %v, but the other way about %v", a, b, x, y)
			}
		}
	}
}

// What is told is right, of whatever it is.
func TestWhatIsToldIsRight(t *testing.T) {
	forms := append(append(rightForms(), wrongForms()...), whole)
	all := append(append(wrongRanges(), none), from(0, 0), from(-1, 2), from(-most, most), from(least, least))
	for _, a := range forms {
		told := []linear.Form{linear.Neg(a)}
		for _, b := range forms {
			told = append(told, linear.Add(a, b), linear.Sub(a, b))
		}
		for _, by := range all {
			told = append(told, linear.Scale(a, by), linear.Blur(a, api.Double, by), linear.Blur(a, api.Single, by), linear.Of(by))
		}
		for _, r := range told {
			if !linear.Right(r) {
				t.Fatalf("of %v: %v", a, r)
			}
		}
	}
}

// withRoom is a form with spare room behind its terms, in which something stands.
func withRoom(a linear.Form) (linear.Form, []linear.Term) {
	all := append(slices.Clone(a.Terms), term(40, from(1, 1)), term(41, from(2, 2)))
	a.Terms = all[:len(all)-2]
	return a, all
}

// P3: what is handed in stays as it is, and what is told is the caller's.
func TestListsAreTheCallers(t *testing.T) {
	a, allA := withRoom(formOf(from(1, 2), term(0, from(1, 1)), term(3, from(-1, 2))))
	b, allB := withRoom(formOf(from(0, 1), term(1, from(1, 1)), term(3, from(4, 5)), term(7, from(1, 1))))
	vars := []api.FloatRange{from(1, 1), from(2, 2), from(3, 3), from(4, 4), from(5, 5)}
	keptA, keptB, keptVars := slices.Clone(allA), slices.Clone(allB), slices.Clone(vars)
	calls := map[string]func() linear.Form{
		"Add":      func() linear.Form { return linear.Add(a, b) },
		"Add none": func() linear.Form { return linear.Add(a, linear.Form{}) },
		"Sub":      func() linear.Form { return linear.Sub(b, a) },
		"Neg":      func() linear.Form { return linear.Neg(a) },
		"Scale":    func() linear.Form { return linear.Scale(b, from(1, 1)) },
		"Blur":     func() linear.Form { return linear.Blur(a, api.Double, from(1, 1)) },
		"Blur by none": func() linear.Form {
			return linear.Blur(b, api.Double, none)
		},
		"OfVar": func() linear.Form { return linear.OfVar(2) },
	}
	for name, call := range calls {
		first := call()
		want := slices.Clone(first.Terms)
		// What is told is written over, and its spare room too.
		for i := range first.Terms[:cap(first.Terms)] {
			first.Terms[:cap(first.Terms)][i] = term(-9, none)
		}
		if second := call(); !slices.Equal(second.Terms, want) {
			t.Errorf("%s hangs on what was told: %v", name, second)
		}
		if !slices.Equal(allA, keptA) || !slices.Equal(allB, keptB) {
			t.Fatalf("%s has changed what was handed in", name)
		}
	}
	linear.Eval(a, vars[:4]...)
	linear.Right(a)
	linear.Same(a, b)
	if !slices.Equal(allA, keptA) || !slices.Equal(allB, keptB) || !slices.Equal(vars, keptVars) {
		t.Error("Eval, Right or Same has changed what was handed in")
	}
}
