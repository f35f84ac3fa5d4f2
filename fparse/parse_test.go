package fparse_test

import (
	"strings"
	"testing"

	"plumbline/api"
	"plumbline/fparse"
)

func checkParse(t *testing.T, s string, want api.Program) {
	t.Helper()
	p, e, at := fparse.Parse(s)
	if e != api.OK || at != 0 || !alikePrograms(p, want) {
		t.Errorf("Parse(%q) = %v, %d, %d; want %v", s, p, e, at, want)
	}
	if e == api.OK && !fparse.Right(p) {
		t.Errorf("Parse(%q) is not right", s)
	}
}

func checkFault(t *testing.T, s string, want api.Errno, place int) {
	t.Helper()
	p, e, at := fparse.Parse(s)
	if e != want || at != place || p.Decls != nil || p.Body != nil {
		t.Errorf("Parse(%.80q) = %v, %d, %d; want %d, %d", s, p, e, at, want, place)
	}
}

// checkValue parses s as what x is set to.
func checkValue(t *testing.T, s string, want api.Expr) {
	t.Helper()
	checkParse(t, "x = "+s+";", body(assign("x", want)))
}

func TestExample(t *testing.T) {
	s := "double x; read x in [0.0, 1.0]; x = x * x - 1.0;"
	want := body(
		read("x", one("0.0"), one("1.0")),
		assign("x", with(api.Sub, with(api.Mul, name("x"), name("x")), one("1.0"))))
	want.Decls = []api.Decl{{Name: "x", Type: api.DoubleType}}
	checkParse(t, s, want)
	p, _, _ := fparse.Parse(s)
	if n := fparse.Points(p); n != 2 {
		t.Errorf("%d points; want 2", n)
	}
}

func TestParseOfNothing(t *testing.T) {
	for _, s := range []string{"", " ", "\t\r\n  \n", strings.Repeat(" ", api.MaxText)} {
		checkParse(t, s, api.Program{})
	}
}

func TestParseOfDeclarations(t *testing.T) {
	for s, d := range map[string]api.Decl{
		"int i;":         {Name: "i", Type: api.IntType},
		"float f;":       {Name: "f", Type: api.FloatType},
		"double d;":      {Name: "d", Type: api.DoubleType},
		"int a[1];":      {Name: "a", Type: api.IntType, Cells: 1},
		"float a[64];":   {Name: "a", Type: api.FloatType, Cells: 64},
		"double a [ 7];": {Name: "a", Type: api.DoubleType, Cells: 7},
		"int a[0008];":   {Name: "a", Type: api.IntType, Cells: 8},
		"int a[" + strings.Repeat("0", 40) + "64];": {Name: "a", Type: api.IntType, Cells: 64},
	} {
		checkParse(t, s, api.Program{Decls: []api.Decl{d}})
	}
	checkParse(t, "int x; int x; float x[2];", api.Program{Decls: []api.Decl{
		{Name: "x", Type: api.IntType}, {Name: "x", Type: api.IntType}, {Name: "x", Type: api.FloatType, Cells: 2}}})
}

func TestParseOfStatements(t *testing.T) {
	x, c, one1 := name("x"), name("c"), one("1")
	set := assign("x", one1)
	for s, want := range map[string]api.Stmt{
		"x = 1;":                  set,
		"x[1] = x;":               store("x", one1, x),
		"x [ x[1] ] = 1 ;":        store("x", cell("x", one1), one1),
		"read x in [0, 1];":       read("x", one("0"), one1),
		"read x in [-1.5, -0.0];": read("x", with(api.Neg, one("1.5")), with(api.Neg, one("0.0"))),
		"read x in[- 1,2.0];":     read("x", with(api.Neg, one1), one("2.0")),
		"if (c) { }":              choose(c, nil, nil),
		"if (c) { x = 1; }":       choose(c, list(set), nil),
		"if (c) { } else { }":     choose(c, nil, nil),
		"if (c) { x = 1; } else { x = 1; x = 1; }":   choose(c, list(set), list(set, set)),
		"if (c) { } else { if (c) { x = 1; } }":      choose(c, nil, list(choose(c, list(set), nil))),
		"if (c) { if (c) { } else { x = 1; } }":      choose(c, list(choose(c, nil, list(set))), nil),
		"while (c) { }":                              loop(c),
		"while (c) { while (c) { x = 1; } x = 1; }":  loop(c, loop(c, set), set),
		"while(c){if(c){x=1;}else{}read x in[1,1];}": loop(c, choose(c, list(set), nil), read("x", one1, one1)),
		"while ((c)) { }":                            loop(c),
	} {
		checkParse(t, s, body(want))
		checkParse(t, "int i; "+s+" x = 1;"+s, api.Program{
			Decls: []api.Decl{{Name: "i", Type: api.IntType}},
			Body:  list(want, set, want)})
	}
}

func TestParseOfExpressions(t *testing.T) {
	x, y := name("x"), name("y")
	for s, want := range map[string]api.Expr{
		"0": one("0"), "007": one("007"), "1.50": one("1.50"), "123456789012345678901": one("123456789012345678901"),
		"x": x, "x[0]": cell("x", one("0")), "x[y[x]]": cell("x", cell("y", x)),
		"x[x + 1]": cell("x", with(api.Add, x, one("1"))), "(x)": x, "((x))": x, "( ( ( 1.0 ) ) )": one("1.0"),
		"sqrt(x)": with(api.Sqrt, x), "abs(x)": with(api.Abs, x),
		"int(x)": cast(api.IntType, x), "float(x)": cast(api.FloatType, x), "double(x)": cast(api.DoubleType, x),
		"sqrt((x))": with(api.Sqrt, x), "sqrt(abs(int(x)))": with(api.Sqrt, with(api.Abs, cast(api.IntType, x))),
		"-x": with(api.Neg, x), "!x": with(api.Not, x), "-1": with(api.Neg, one("1")),
		"--x": with(api.Neg, with(api.Neg, x)), "- - -1.0": with(api.Neg, with(api.Neg, with(api.Neg, one("1.0")))),
		"!!x": with(api.Not, with(api.Not, x)), "!-!x": with(api.Not, with(api.Neg, with(api.Not, x))),
		"-!x": with(api.Neg, with(api.Not, x)), "-(x)": with(api.Neg, x), "-sqrt(x)": with(api.Neg, with(api.Sqrt, x)),
		"-x[0]": with(api.Neg, cell("x", one("0"))), "!(x < y)": with(api.Not, with(api.Lt, x, y)),
		"(x + y) * x": with(api.Mul, with(api.Add, x, y), x), "x * (x + y)": with(api.Mul, x, with(api.Add, x, y)),
		"x - (y - x)": with(api.Sub, x, with(api.Sub, y, x)), "(x - y) - x": with(api.Sub, with(api.Sub, x, y), x),
		"sqrt(x + y) + 1": with(api.Add, with(api.Sqrt, with(api.Add, x, y)), one("1")),
	} {
		checkValue(t, s, want)
		checkParse(t, "if ("+s+") { }", body(choose(want, nil, nil)))
		checkParse(t, "while ("+s+") { }", body(loop(want)))
		checkParse(t, "x["+s+"] = y;", body(store("x", want, y)))
	}
}

// Each pair of operators: the stronger one is done first, of two that are alike the left one.
func TestStrength(t *testing.T) {
	x, y, z := name("x"), name("y"), name("z")
	for _, a := range between {
		checkValue(t, "x "+a.sign+" y", with(a.op, x, y))
		checkValue(t, "x"+a.sign+"y", with(a.op, x, y))
		for _, ahead := range []struct {
			op   api.Op
			sign string
		}{{api.Neg, "-"}, {api.Not, "!"}} {
			checkValue(t, ahead.sign+"x "+a.sign+" "+ahead.sign+"y", with(a.op, with(ahead.op, x), with(ahead.op, y)))
			checkValue(t, ahead.sign+"(x "+a.sign+" y)", with(ahead.op, with(a.op, x, y)))
		}
		for _, b := range between {
			want := with(b.op, with(a.op, x, y), z)
			if b.strength > a.strength {
				want = with(a.op, x, with(b.op, y, z))
			}
			checkValue(t, "x "+a.sign+" y "+b.sign+" z", want)
			checkValue(t, "(x "+a.sign+" y) "+b.sign+" z", with(b.op, with(a.op, x, y), z))
			checkValue(t, "x "+a.sign+" (y "+b.sign+" z)", with(a.op, x, with(b.op, y, z)))
		}
	}
}

// inBrackets is e with ( ) around each Kid, so that no strength plays a part.
func inBrackets(e api.Expr) string {
	kid := func(i int) string { return "(" + inBrackets(e.Kids[i]) + ")" }
	switch e.Op {
	case api.Const, api.Var:
		return e.Text
	case api.Cell:
		return e.Text + "[" + kid(0) + "]"
	case api.Neg:
		return "-" + kid(0)
	case api.Not:
		return "!" + kid(0)
	case api.Abs:
		return "abs(" + kid(0) + ")"
	case api.Sqrt:
		return "sqrt(" + kid(0) + ")"
	case api.Cast:
		return [...]string{"", "int", "float", "double"}[e.Type] + "(" + kid(0) + ")"
	}
	for _, o := range between {
		if o.op == e.Op {
			return kid(0) + o.sign + kid(1)
		}
	}
	return "?"
}

func TestParseOfWhatStandsInBrackets(t *testing.T) {
	d := dice(2463534242)
	for range 3000 {
		e := d.expr(6)
		checkValue(t, inBrackets(e), e)
	}
}

func TestBlanksPlayNoPart(t *testing.T) {
	want := body(choose(with(api.Le, name("x"), with(api.Neg, one("1"))), list(assign("x", one("2"))), list(loop(name("c")))))
	want.Decls = []api.Decl{{Name: "x", Type: api.IntType, Cells: 3}}
	tokens := strings.Fields("int x [ 3 ] ; if ( x <= - 1 ) { x = 2 ; } else { while ( c ) { } }")
	for _, blank := range []string{" ", "\n", "\t", "\r", " \t\r\n "} {
		checkParse(t, strings.Join(tokens, blank), want)
		checkParse(t, blank+strings.Join(tokens, blank)+blank, want)
	}
	checkParse(t, "int x[3];if(x<=-1){x=2;}else{while(c){}}", want)
}
