package fcheck_test

import (
	"testing"

	"plumbline/api"
	"plumbline/fcheck"
)

func unitOf(t *testing.T) *fcheck.Unit {
	t.Helper()
	u, e, _ := fcheck.Check(api.Program{Decls: vars()})
	if e != api.OK {
		t.Fatal(e)
	}
	return u
}

// values are expressions of each type; the first ones are truths.
func values() [4][]api.Expr {
	i, f, d := name("i"), name("f"), name("d")
	return [4][]api.Expr{
		api.NoType:     {with(api.Lt, i, i), with(api.Not, with(api.Eq, d, d)), with(api.Or, with(api.Ne, f, f), with(api.Ge, i, i))},
		api.IntType:    {one("7"), i, cell("ai", i), with(api.Neg, i), cast(api.IntType, d)},
		api.FloatType:  {f, cell("af", one("0")), with(api.Sqrt, f), cast(api.FloatType, one("1.5"))},
		api.DoubleType: {one("1.5"), d, cell("ad", i), with(api.Mul, d, d), cast(api.DoubleType, i)},
	}
}

func checkType(t *testing.T, u *fcheck.Unit, e api.Expr, want api.Type, errno api.Errno) {
	t.Helper()
	if got, has := u.Type(e); got != want || has != errno {
		t.Errorf("Type(%v) = %d, %d; want %d, %d", e, got, has, want, errno)
	}
}

// checkOver: an expression has that type, or none (-1).
func checkOver(t *testing.T, u *fcheck.Unit, e api.Expr, want api.Type) {
	t.Helper()
	if want < 0 {
		checkType(t, u, e, api.NoType, api.ErrType)
		return
	}
	checkType(t, u, e, want, api.OK)
}

func TestTypesOfValues(t *testing.T) {
	u := unitOf(t)
	for want, l := range values() {
		for _, e := range l {
			checkType(t, u, e, api.Type(want), api.OK)
		}
	}
}

// Each kind of expression over each type: -1 where it has none.
func TestTypesOverOne(t *testing.T) {
	u := unitOf(t)
	for op, want := range map[api.Op][4]api.Type{
		api.Neg:  {-1, api.IntType, api.FloatType, api.DoubleType},
		api.Abs:  {-1, api.IntType, api.FloatType, api.DoubleType},
		api.Sqrt: {-1, -1, api.FloatType, api.DoubleType},
		api.Not:  {api.NoType, -1, -1, -1},
	} {
		for kind, l := range values() {
			for _, e := range l {
				checkOver(t, u, with(op, e), want[kind])
			}
		}
	}
	for kind, l := range values() {
		for _, e := range l {
			for _, to := range []api.Type{api.IntType, api.FloatType, api.DoubleType} {
				want := to
				if api.Type(kind) == api.NoType {
					want = -1
				}
				checkOver(t, u, cast(to, e), want)
			}
			for array, of := range map[string]api.Type{"ai": api.IntType, "af": api.FloatType, "ad": api.DoubleType} {
				if api.Type(kind) != api.IntType {
					of = -1
				}
				checkOver(t, u, cell(array, e), of)
			}
		}
	}
}

func TestTypesOverTwo(t *testing.T) {
	u := unitOf(t)
	for op := api.Add; op <= api.Or; op++ {
		for a, left := range values() {
			for b, right := range values() {
				want := api.Type(-1)
				switch truths := a == 0; {
				case a != b:
				case op <= api.Div && !truths:
					want = api.Type(a)
				case op >= api.Lt && op <= api.Ne && !truths, op >= api.And && truths:
					want = api.NoType
				}
				for _, x := range left {
					for _, y := range right {
						checkOver(t, u, with(op, x, y), want)
					}
				}
			}
		}
	}
}

func TestTypesOfNames(t *testing.T) {
	u := unitOf(t)
	for _, d := range vars() {
		if d.Cells > 0 {
			checkType(t, u, name(d.Name), api.NoType, api.ErrType)
			checkType(t, u, cell(d.Name, one("0")), d.Type, api.OK)
		} else {
			checkType(t, u, name(d.Name), d.Type, api.OK)
			checkType(t, u, cell(d.Name, one("0")), api.NoType, api.ErrType)
		}
	}
	checkType(t, u, name("zz"), api.NoType, api.ErrName)
	checkType(t, u, cell("zz", one("0")), api.NoType, api.ErrName)
	checkType(t, u, one("2147483648"), api.NoType, api.ErrRange)
	checkType(t, u, one("1234567890123456789"), api.NoType, api.ErrDigits)
	checkType(t, u, one("1.234567890123456789"), api.NoType, api.ErrDigits)
}

func TestTypeOfWhatIsNotRight(t *testing.T) {
	u := unitOf(t)
	deep := name("i")
	for range api.MaxDeep - 1 {
		deep = with(api.Neg, deep)
	}
	checkType(t, u, deep, api.IntType, api.OK)
	checkType(t, u, with(api.Neg, deep), api.NoType, api.ErrForm)
	wide := name("i")
	for range 10 {
		wide = with(api.Add, wide, wide)
	}
	checkType(t, u, wide, api.IntType, api.OK)
	checkType(t, u, with(api.Add, wide, wide), api.NoType, api.ErrForm)
	for _, e := range []api.Expr{
		{}, {Op: -1}, {Op: api.Not + 1}, {Text: "i"}, one(""), one("x"), one("-1"), one("1 "), name(""), name("int"), name("1"), with(api.Neg), with(api.Neg, name("i"), name("i")), with(api.Add, name("i")),
		with(api.Neg, api.Expr{}), cast(api.NoType, name("i")), cast(4, name("i")), {Op: api.Cell, Text: "ai"}, {Op: api.Var, Text: "i", Type: api.IntType}, {Op: api.Neg, Text: "i", Kids: []api.Expr{name("i")}},
		with(api.Add, name("zz"), api.Expr{}), with(api.And, one("1"), one("x")),
	} {
		checkType(t, u, e, api.NoType, api.ErrForm)
	}
	round := make([]api.Expr, 1)
	round[0] = api.Expr{Op: api.Neg, Kids: round}
	checkType(t, u, round[0], api.NoType, api.ErrForm)
}
