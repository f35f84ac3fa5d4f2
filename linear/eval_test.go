package linear_test

import (
	"math"
	"math/big"
	"testing"

	"plumbline/api"
	"plumbline/linear"
)

func TestEval(t *testing.T) {
	x, y := linear.OfVar(0), linear.OfVar(1)
	both := formOf(from(1, 2), term(0, from(2, 2)), term(1, from(-1, 3)))
	bad := api.FloatRange{Lo: 1}
	for _, c := range []struct {
		a    linear.Form
		vars []api.FloatRange
		want api.FloatRange
		ok   bool
	}{
		{linear.Form{}, nil, from(0, 0), true},
		{formOf(from(-3, 5)), nil, from(-3, 5), true},
		{x, []api.FloatRange{from(1, 2)}, from(1, 2), true},
		{both, []api.FloatRange{from(1, 2), from(10, 20)}, from(3-20, 6+60), true},
		{both, []api.FloatRange{from(-1, 2), from(-10, 20)}, from(1-2-30, 2+4+60), true},
		// Too few ranges.
		{x, nil, api.FloatRange{}, false},
		{y, []api.FloatRange{from(1, 1)}, api.FloatRange{}, false},
		{both, []api.FloatRange{from(1, 1)}, api.FloatRange{}, false},
		{linear.OfVar(math.MaxInt), []api.FloatRange{from(1, 1)}, api.FloatRange{}, false},
		// More than are asked for play no part, whatever they are.
		{x, []api.FloatRange{from(1, 2), none, bad}, from(1, 2), true},
		{y, []api.FloatRange{bad, from(1, 2), none}, from(1, 2), true},
		{y, []api.FloatRange{none, from(1, 2), bad}, from(1, 2), true},
		{formOf(from(7, 8)), []api.FloatRange{bad, none}, from(7, 8), true},
		// Ranges that are Empty, and that are not right: these are named first.
		{x, []api.FloatRange{none}, none, true},
		{both, []api.FloatRange{none, from(1, 1)}, none, true},
		{both, []api.FloatRange{from(1, 1), none}, none, true},
		{both, []api.FloatRange{none, bad}, api.FloatRange{}, false},
		{both, []api.FloatRange{bad, none}, api.FloatRange{}, false},
		{both, []api.FloatRange{none}, api.FloatRange{}, false},
		// Empty also where others come to what is not finite.
		{both, []api.FloatRange{from(most, most), none}, none, true},
		{both, []api.FloatRange{none, from(most, most)}, none, true},
		// A product that is not finite, and a sum.
		{both, []api.FloatRange{from(1, most), from(0, 0)}, api.FloatRange{}, false},
		{both, []api.FloatRange{from(0, 0), from(0, most)}, api.FloatRange{}, false},
		{formOf(from(most, most), term(0, from(1, 1))), []api.FloatRange{from(0, 1)}, api.FloatRange{}, false},
		{formOf(from(most, most), term(0, from(1, 1))), []api.FloatRange{from(-1, 0)}, from(math.Nextafter(most, 0), most), true},
		// One behind the other: a sum on the way that is not finite is enough.
		{formOf(from(most, most), term(0, from(1, 1)), term(1, from(1, 1))), []api.FloatRange{from(1, 1), from(-most, -most)}, api.FloatRange{}, false},
		{formOf(from(most, most), term(0, from(1, 1)), term(1, from(1, 1))), []api.FloatRange{from(-most, -most), from(1, 1)}, from(1, 1), true},
	} {
		if got, ok := linear.Eval(c.a, c.vars...); got != c.want || ok != c.ok {
			t.Errorf("Eval(%v, %v) = %v, %v; want %v, %v", c.a, c.vars, got, ok, c.want, c.ok)
		}
	}
}

func TestEvalOfWrongForms(t *testing.T) {
	vars := make([]api.FloatRange, 500)
	for i := range vars {
		vars[i] = from(1, 2)
	}
	for _, a := range append(wrongForms(), whole) {
		for _, l := range [][]api.FloatRange{nil, vars, {none, none, none, none}, {from(1, 1)}} {
			if got, ok := linear.Eval(a, l...); got != (api.FloatRange{}) || ok {
				t.Errorf("Eval(%v) = %v, %v", a, got, ok)
			}
		}
	}
	for _, bad := range wrongRanges() {
		if got, ok := linear.Eval(linear.OfVar(1), from(1, 1), bad); got != (api.FloatRange{}) || ok {
			t.Errorf("Eval of %v: %v, %v", bad, got, ok)
		}
	}
}

// P9.3: the Sum of Const and, one behind the other, the Products.
func TestEvalOneBehindTheOther(t *testing.T) {
	d := dice(1234567)
	for range 5000 {
		a := d.form(5)
		var vars []api.FloatRange
		for range 5 + d.below(2) {
			vars = append(vars, d.floatRange())
		}
		want, ok := a.Const, true
		for _, t := range a.Terms {
			var product api.FloatRange
			if product, ok = trueProduct(t.Coef, vars[t.Var]); ok {
				want, ok = trueSum(want, product)
			}
			if !ok {
				want = api.FloatRange{}
				break
			}
		}
		if got, is := linear.Eval(a, vars...); got != want || is != ok {
			t.Fatalf("Eval(%v, %v) = %v, %v; want %v, %v", a, vars, got, is, want, ok)
		}
	}
}

// slackOf is what Blur adds and takes away, by true numbers that are rounded twice.
func slackOf(f api.Format, by api.FloatRange) float64 {
	place, small := 0x1p-52, least
	if f == api.Single {
		place, small = 0x1p-23, math.SmallestNonzeroFloat32
	}
	size := max(math.Abs(value(by.Lo)), math.Abs(value(by.Hi)))
	return up(plus(exact(up(times(exact(size), exact(place)))), exact(small)))
}

func TestBlur(t *testing.T) {
	for _, f := range []api.Format{api.Double, api.Single, -1, 2, 1 << 40} {
		for _, a := range rightForms() {
			for _, by := range ranges() {
				e := slackOf(f, by)
				want := whole
				if first, ok := trueSum(a.Const, from(-e, e)); ok {
					want = formOf(first, a.Terms...)
				}
				if got := linear.Blur(a, f, by); !sameForm(got, want) {
					t.Fatalf("Blur(%v, %d, %v) = %v; want %v", a, f, by, got, want)
				}
			}
			if got := linear.Blur(a, f, none); !sameForm(got, a) {
				t.Errorf("Blur(%v, %d, Empty) = %v", a, f, got)
			}
			for _, by := range wrongRanges() {
				if got := linear.Blur(a, f, by); !sameForm(got, whole) {
					t.Errorf("Blur(%v, %d, %v) = %v", a, f, by, got)
				}
			}
		}
	}
}

func TestBlurByHand(t *testing.T) {
	x, zero := linear.OfVar(0), from(0, 0)
	blurred := func(e float64) linear.Form { return formOf(from(-e, e), x.Terms...) }
	for _, c := range []struct {
		a    linear.Form
		f    api.Format
		by   api.FloatRange
		want linear.Form
	}{
		// The least float above 0 is in it also where by is 0 to 0.
		{x, api.Double, zero, blurred(least)},
		{x, api.Single, zero, blurred(0x1p-149)},
		{x, api.Double, from(0, 1), blurred(math.Nextafter(0x1p-52, 1))},
		{x, api.Single, from(0, 1), blurred(math.Nextafter(0x1p-23, 1))},
		// The greater size, on whichever side.
		{x, api.Double, from(-4, 1), blurred(math.Nextafter(0x1p-50, 1))},
		{x, api.Double, from(-1, 4), blurred(math.Nextafter(0x1p-50, 1))},
		{x, api.Double, from(-4, -1), blurred(math.Nextafter(0x1p-50, 1))},
		{x, api.Single, from(-4, 1), blurred(math.Nextafter(0x1p-21, 1))},
		// Rounded Up ahead of the least one, and once more behind it.
		{x, api.Double, from(0, least), blurred(2 * least)},
		{x, api.Double, from(0, 0x1p-1022), blurred(2 * least)},
		{x, api.Double, from(0, 0x1.8p-1021), blurred(4 * least)},
		{x, api.Single, from(0, 0x1p-149), blurred(0x1p-149 + 0x1p-172)},
		{x, api.Single, from(0, 0x1p-126), blurred(0x1p-148)},
		// Great ones: the slack is always finite, the sum may not be.
		{x, api.Double, from(-most, most), blurred(math.Nextafter(most*0x1p-52, most))},
		{x, api.Single, from(0, most), blurred(math.Nextafter(most*0x1p-23, most))},
		{formOf(from(0, most)), api.Double, zero, whole},
		{formOf(from(-most, 0)), api.Single, from(-1, 1), whole},
		// 2^-51 and a very little more, about 1: one step farther on each side than 2^-51 alone.
		{formOf(from(1, 1), term(3, from(-1, 2))), api.Double, from(1, 2), formOf(from(1-0x1.4p-51, 1+0x1.8p-51), term(3, from(-1, 2)))},
	} {
		if got := linear.Blur(c.a, c.f, c.by); !sameForm(got, c.want) {
			t.Errorf("Blur(%v, %d, %v) = %v; want %v", c.a, c.f, c.by, got, c.want)
		}
	}
}

// nearest is a true number as a float of f, rounded Near; false, if it is too great.
func nearest(f api.Format, x *big.Rat) (float64, bool) {
	var r float64
	if f == api.Single {
		single, _ := x.Float32()
		r = float64(single)
	} else {
		r, _ = x.Float64()
	}
	return r + 0, !math.IsInf(r, 0)
}

// P9.5 (E4): a number of a form, rounded Near to a float that lies in by, is a number of Blur.
func TestBlurIsSound(t *testing.T) {
	d := dice(5)
	for round := range 8000 {
		f := []api.Format{api.Double, api.Single}[round%2]
		a := d.form(3)
		values := []*big.Rat{d.within(d.floatRange()), d.within(d.floatRange()), d.within(d.floatRange())}
		if d.below(3) == 0 {
			// Near the smallest floats the least one above 0 carries the weight.
			a = formOf(from(least*float64(d.below(50)), 0x1p-1000), term(0, from(-0x1p-140, 0x1p-149)))
			values[0] = big.NewRat(int64(d.below(1000)-500), 7)
		}
		x := d.draw(a, values)
		float, ok := nearest(f, x)
		if !ok {
			continue
		}
		for _, by := range []api.FloatRange{from(float, float), from(min(float, 0), max(float, 1)), from(min(float, -1), max(float, 0))} {
			if got := linear.Blur(a, f, by); !linear.Right(got) || !isNumber(got, values, exact(float)) {
				t.Fatalf("Blur(%v, %d, %v) = %v has lost %g", a, f, by, got, float)
			}
		}
	}
}
