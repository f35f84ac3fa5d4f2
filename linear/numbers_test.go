package linear_test

import (
	"math"
	"math/big"
	"slices"

	"plumbline/api"
	"plumbline/linear"
)

var none = api.FloatRange{Empty: true}

var whole = linear.Form{Whole: true}

const (
	most  = math.MaxFloat64
	least = math.SmallestNonzeroFloat64
)

// from is a range of the machine's numbers, without -0.
func from(lo, hi float64) api.FloatRange {
	return api.FloatRange{Lo: math.Float64bits(lo + 0), Hi: math.Float64bits(hi + 0)}
}

func value(x uint64) float64 { return math.Float64frombits(x) }

// exact is a finite number of any size.
func exact(x float64) *big.Rat { return new(big.Rat).SetFloat64(x) }

func lo(a api.FloatRange) *big.Rat { return exact(value(a.Lo)) }

func hi(a api.FloatRange) *big.Rat { return exact(value(a.Hi)) }

func plus(x, y *big.Rat) *big.Rat { return new(big.Rat).Add(x, y) }

func times(x, y *big.Rat) *big.Rat { return new(big.Rat).Mul(x, y) }

// down and up are the floats beside a true number, or it; infinite, where none is that great.
func down(x *big.Rat) float64 {
	r, _ := x.Float64()
	if math.IsInf(r, 1) {
		return most
	}
	if !math.IsInf(r, 0) && exact(r).Cmp(x) > 0 {
		return math.Nextafter(r, math.Inf(-1))
	}
	return r
}

func up(x *big.Rat) float64 { return -down(new(big.Rat).Neg(x)) }

// outside is the range of floats around true numbers; false, where there is none.
func outside(l ...*big.Rat) (api.FloatRange, bool) {
	order := func(x, y *big.Rat) int { return x.Cmp(y) }
	a, b := down(slices.MinFunc(l, order)), up(slices.MaxFunc(l, order))
	if math.IsInf(a, 0) || math.IsInf(b, 0) {
		return api.FloatRange{}, false
	}
	return from(a, b), true
}

func trueSum(a, b api.FloatRange) (api.FloatRange, bool) {
	return outside(plus(lo(a), lo(b)), plus(hi(a), hi(b)))
}

func trueProduct(a, b api.FloatRange) (api.FloatRange, bool) {
	return outside(times(lo(a), lo(b)), times(lo(a), hi(b)), times(hi(a), lo(b)), times(hi(a), hi(b)))
}

// edges are floats at which something turns, rising.
func edges() []float64 {
	l := []float64{0}
	for _, x := range []float64{least, 0x1p-1022, 0x1p-53, 1, math.Nextafter(1, 2), 3, 0x1p512, most} {
		l = append(l, x, -x)
	}
	slices.Sort(l)
	return l
}

// ranges are all from one edge to another.
func ranges() []api.FloatRange {
	var all []api.FloatRange
	l := edges()
	for k, a := range l {
		for _, b := range l[k:] {
			all = append(all, from(a, b))
		}
	}
	return all
}

// wrongRanges are some that are not right.
func wrongRanges() []api.FloatRange {
	one, sign, nan, inf := math.Float64bits(1), uint64(1)<<63, math.Float64bits(math.NaN()), math.Float64bits(math.Inf(1))
	return []api.FloatRange{
		{Empty: true, Lo: 1}, {Empty: true, Hi: one}, {Empty: true, Lo: one, Hi: one}, {Empty: true, Lo: sign},
		{Lo: one}, {Hi: one | sign}, {Lo: one + 1, Hi: one}, {Lo: one | sign, Hi: one + 1 | sign},
		{Lo: sign, Hi: one}, {Lo: sign, Hi: sign}, {Hi: sign}, {Lo: one | sign, Hi: sign},
		{Lo: nan, Hi: nan}, {Hi: nan}, {Lo: nan}, {Lo: nan | sign, Hi: one},
		{Lo: inf | sign, Hi: inf}, {Hi: inf}, {Lo: inf | sign}, {Lo: inf, Hi: inf}, {Lo: inf},
	}
}

// dice are numbers that look like chance but are always the same.
type dice uint64

func (d *dice) next() uint64 {
	*d ^= *d << 13
	*d ^= *d >> 7
	*d ^= *d << 17
	return uint64(*d) * 0x2545f4914f6cdd1d
}

func (d *dice) below(n int) int { return int(d.next() >> 33 % uint64(n)) }

// float is any finite one, an edge, or one of middling size.
func (d *dice) float() float64 {
	switch l := edges(); d.below(5) {
	case 0:
		return l[d.below(len(l))]
	case 1:
		if x := value(d.next()); x-x == 0 {
			return x + 0
		}
		return 0
	}
	return math.Ldexp(float64(int64(d.next())), -60-d.below(6)) + 0
}

// floatRange is any that is right, and not Empty.
func (d *dice) floatRange() api.FloatRange {
	x, y := d.float(), d.float()
	if d.below(3) == 0 {
		y = x
	}
	return from(min(x, y), max(x, y))
}

// within is any true number of a range: also one that is no float.
func (d *dice) within(a api.FloatRange) *big.Rat {
	part := big.NewRat(int64(d.below(8)), 7)
	return plus(lo(a), times(part, new(big.Rat).Sub(hi(a), lo(a))))
}

// form is any that is right, with so many variables.
func (d *dice) form(vars int) linear.Form {
	a := linear.Form{Const: d.floatRange()}
	for n := range vars {
		if coef := d.floatRange(); d.below(2) == 0 && coef != from(0, 0) {
			a.Terms = append(a.Terms, linear.Term{Var: n, Coef: coef})
		}
	}
	return a
}

// numbers are the least and the greatest of a form's, where the variables have values.
func numbers(a linear.Form, values []*big.Rat) (*big.Rat, *big.Rat) {
	low, high := lo(a.Const), hi(a.Const)
	for _, t := range a.Terms {
		x, y := times(lo(t.Coef), values[t.Var]), times(hi(t.Coef), values[t.Var])
		if x.Cmp(y) > 0 {
			x, y = y, x
		}
		low, high = plus(low, x), plus(high, y)
	}
	return low, high
}

// isNumber tells whether x is a number of a form, where the variables have values.
func isNumber(a linear.Form, values []*big.Rat, x *big.Rat) bool {
	if a.Whole {
		return true
	}
	low, high := numbers(a, values)
	return low.Cmp(x) <= 0 && x.Cmp(high) <= 0
}

// draw is any number of a form, where the variables have values.
func (d *dice) draw(a linear.Form, values []*big.Rat) *big.Rat {
	x := d.within(a.Const)
	for _, t := range a.Terms {
		x = plus(x, times(d.within(t.Coef), values[t.Var]))
	}
	return x
}

// formOf is a Const, and terms.
func formOf(first api.FloatRange, l ...linear.Term) linear.Form {
	return linear.Form{Const: first, Terms: l}
}

func term(n int, coef api.FloatRange) linear.Term { return linear.Term{Var: n, Coef: coef} }

// manyTerms are of the variables from first on, 1 to 2 times each.
func manyTerms(first, many int) []linear.Term {
	var l []linear.Term
	for n := range many {
		l = append(l, term(first+n, from(1, 2)))
	}
	return l
}

// wrongForms are some that are not right.
func wrongForms() []linear.Form {
	one := from(1, 1)
	l := []linear.Form{
		{Whole: true, Const: one}, {Whole: true, Const: none}, {Whole: true, Terms: []linear.Term{term(0, one)}}, {Const: none},
		formOf(from(0, 0), term(-1, one)), formOf(one, term(math.MinInt, one)), formOf(one, term(-2, one), term(0, one)),
		formOf(one, term(0, one), term(0, one)), formOf(one, term(1, one), term(0, one)), formOf(one, term(0, one), term(2, one), term(1, one)),
		formOf(one, term(math.MaxInt, one), term(math.MaxInt, one)),
		formOf(one, term(0, from(0, 0))), formOf(one, term(0, one), term(3, from(0, 0))), formOf(one, term(0, none)),
		formOf(one, manyTerms(0, api.MaxTerms+1)...), formOf(one, manyTerms(3, 400)...),
	}
	for _, a := range wrongRanges() {
		l = append(l, formOf(a), formOf(one, term(2, a)), linear.Form{Whole: true, Const: a})
	}
	return l
}

// rightForms are some that are right, and not Whole.
func rightForms() []linear.Form {
	return []linear.Form{
		{}, {Terms: []linear.Term{}}, formOf(from(1, 1)), formOf(from(-most, most)), formOf(from(0, 0), term(0, from(0, 1))), formOf(from(-2, 3), term(0, from(-1, 0)), term(7, from(-most, most))),
		formOf(from(0, 0), term(math.MaxInt, from(1, 1))), formOf(from(0, 0), term(0, from(least, least)), term(math.MaxInt, from(-1, 2))), formOf(from(0, 0), manyTerms(0, api.MaxTerms)...), formOf(from(5, 5), manyTerms(100, api.MaxTerms)...),
	}
}

// sameForm holds what is told against what is wanted, to the last bit.
func sameForm(a, b linear.Form) bool {
	return a.Whole == b.Whole && a.Const == b.Const && slices.Equal(a.Terms, b.Terms)
}
