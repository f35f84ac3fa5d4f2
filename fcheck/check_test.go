package fcheck_test

import (
	"strings"
	"testing"

	"plumbline/api"
	"plumbline/fcheck"
	"plumbline/fparse"
)

// declarations are those of vars.
const declarations = "int i; float f; double d; int ai[4]; float af[1]; double ad[64]; "

func checkText(t *testing.T, s string, want api.Errno, at api.Point) {
	t.Helper()
	p, e, _ := fparse.Parse(s)
	if e != api.OK {
		t.Fatalf("Parse(%q): %d", s, e)
	}
	u, e, point := fcheck.Check(p)
	if e != want || point != at || (u == nil) != (want != api.OK) {
		t.Errorf("Check(%q) = %v, %d, %d; want %d, %d", s, u != nil, e, point, want, at)
	}
	u, e = fcheck.Read(s)
	if e != want || (u == nil) != (want != api.OK) {
		t.Errorf("Read(%q) = %v, %d; want %d", s, u != nil, e, want)
	}
}

// checkBody checks statements behind declarations of each type, alone and behind others.
func checkBody(t *testing.T, s string, want api.Errno) {
	t.Helper()
	checkText(t, declarations+s, want, 0)
	if want != api.OK {
		checkText(t, declarations+"i = 1; if (i < 1) { d = 1.0; } else { "+s+" } i = 1.5;", want, 3)
	}
}

func TestExample(t *testing.T) {
	checkText(t, "int i; i = 1.5;", api.ErrType, 0)
}

func TestWellPrograms(t *testing.T) {
	checkText(t, "", api.OK, 0)
	checkText(t, "int i;", api.OK, 0)
	checkBody(t, "i = 1; f = float(1); d = 1.0; ai[0] = 1; af[i] = f; ad[ai[i]] = ad[0];", api.OK)
	checkBody(t, "read i in [0, 1]; read f in [0.0, 1.0]; read d in [-1.0, -0.5];", api.OK)
	checkBody(t, "if (i < 1) { } if (!(f == f) && d > 1.0 || i != 2) { while (i <= 1) { i = i + 1; } } else { i = -i; }", api.OK)
	checkBody(t, "ad[99] = 1.0; ai[-1] = 1 / 0;", api.OK)
	checkBody(t, "i = int(d) + int(f) + int(i); f = float(d) * float(f) - float(i); d = double(d) + double(f) / double(i);", api.OK)
	checkBody(t, "f = sqrt(f) + abs(f); d = sqrt(d) + abs(d); i = abs(i);", api.OK)
}

// What is no program.
func TestFormOfPrograms(t *testing.T) {
	for _, p := range []api.Program{
		{Body: []api.Stmt{{}}},
		{Body: []api.Stmt{assign("int", one("1"))}},
		{Decls: []api.Decl{{Name: "x"}}},
		{Decls: []api.Decl{{Name: "x", Type: api.IntType}, {Name: "x", Type: api.IntType}}, Body: []api.Stmt{{}}},
		{Decls: make([]api.Decl, api.MaxVars+1)},
		{Body: []api.Stmt{assign("x", with(api.Add, one("1")))}},
		{Body: []api.Stmt{assign("x", one("1")), {Do: api.While, Value: name("x"), Else: []api.Stmt{assign("x", one("1"))}}}},
		{Body: []api.Stmt{read("x", name("x"), one("1"))}},
	} {
		if u, e, at := fcheck.Check(p); u != nil || e != api.ErrForm || at != 0 {
			t.Errorf("Check(%v) = %v, %d, %d; want ErrForm", p, u != nil, e, at)
		}
	}
}

func TestReadTellsWhatParseTells(t *testing.T) {
	for s, want := range map[string]api.Errno{
		"x = ;": api.ErrForm, "int": api.ErrForm, "x = $;": api.ErrChar, "int a[65];": api.ErrLimit, strings.Repeat(" ", api.MaxText+1): api.ErrLimit,
		strings.Repeat("int x; ", api.MaxVars+1): api.ErrLimit, "y = 1; ?": api.ErrChar, "y = 1; y": api.ErrForm, "\xff": api.ErrChar,
	} {
		if u, e := fcheck.Read(s); u != nil || e != want {
			t.Errorf("Read(%.40q) = %v, %d; want %d", s, u != nil, e, want)
		}
	}
}

// ( ) in ( ), some of them a call's: as deep as they may be, and one deeper.
func TestReadAtTheLimitOfBrackets(t *testing.T) {
	for _, c := range []struct{ to, word string }{{"d", "sqrt"}, {"d", "abs"}, {"i", "abs"}, {"i", "int"}, {"f", "float"}, {"d", "double"}} {
		s := strings.Repeat(c.word+"((", api.MaxDeep/2) + c.to + strings.Repeat("))", api.MaxDeep/2)
		checkBody(t, c.to+" = "+s+";", api.OK)
		for _, more := range []string{"(" + s + ")", c.word + "(" + s + ")"} {
			if u, e := fcheck.Read(declarations + c.to + " = " + more + ";"); u != nil || e != api.ErrLimit {
				t.Errorf("Read of %q = %v, %d; want ErrLimit", more, u != nil, e)
			}
		}
	}
}

func TestKnownNames(t *testing.T) {
	checkText(t, "int i; int i;", api.ErrKnown, 0)
	checkText(t, "int i; double i;", api.ErrKnown, 0)
	checkText(t, "int i; int i[2];", api.ErrKnown, 0)
	checkText(t, "int i; int j; int k; int j; ", api.ErrKnown, 0)
	checkText(t, "int i; int j; int i; x = 1;", api.ErrKnown, 0)
	checkText(t, "int i; int i; i = 1; i = 1.5;", api.ErrKnown, 0)
	checkText(t, "int i; int I; int i_; int i1;", api.OK, 0)
}

func TestUnknownNames(t *testing.T) {
	checkText(t, "i = 1;", api.ErrName, 0)
	checkText(t, "int i; i = 1; i = 2; I = 1;", api.ErrName, 2)
	for _, s := range []string{
		"zz = 1;", "zz[0] = 1;", "read zz in [0, 1];", "i = zz;", "i = zz[0];", "ai[zz] = 1;", "ai[0] = zz;", "if (zz) { }", "while (zz < 1) { }", "while (1 < zz) { }",
		"i = -zz;", "i = abs(zz);", "d = sqrt(zz);", "i = int(zz);", "i = 1 + zz;", "i = zz + 1;", "i = ai[zz];", "i = ai[ai[zz]];", "if (!zz) { }", "if (zz && i < 1) { }",
	} {
		checkBody(t, s, api.ErrName)
	}
}

func TestTypesOfStatements(t *testing.T) {
	for _, s := range []string{
		"i = 1.0;", "i = f;", "i = d;", "f = 1;", "f = 1.0;", "f = i;", "f = d;", "d = 1;", "d = i;", "d = f;", "i = i < 1;", "d = d < 1.0;", "f = !(f < f);",
		"ai = 1;", "ad = 1.0;", "i[0] = 1;", "d[0] = 1.0;", "ai[0] = 1.0;", "af[0] = 1.0;", "ad[0] = 1;", "ai[1.0] = 1;", "ai[f] = 1;", "ai[i < 1] = 1;", "ad[d] = 1.0;",
		"ai = ai;", "i = ai;", "ai[ai] = 1;", "i = i[0];", "i = ai[d];", "i = ai[i < 1];", "i = ad[0];", "i = af[0];",
		"read ai in [0, 1];", "read ad in [0.0, 1.0];", "read i in [0.0, 1];", "read i in [0, 1.0];", "read i in [-0.0, 1];", "read i in [0, -1.0];",
		"read f in [0, 1.0];", "read f in [0.0, 1];", "read f in [-1, 1.0];", "read d in [0, 1.0];", "read d in [0.0, 1];", "read d in [0.0, -1];",
		"if (i) { }", "if (1) { }", "if (d) { }", "if (f) { }", "while (i) { }", "while (1.0) { }", "while (-i) { }", "if (ai) { }", "while (ai[0]) { }",
	} {
		checkBody(t, s, api.ErrType)
	}
}

func TestNumbers(t *testing.T) {
	nines := strings.Repeat("9", api.MaxDigits)
	for s, want := range map[string]api.Errno{
		"i = 2147483647;": api.OK, "i = 2147483648;": api.ErrRange, "i = -2147483648;": api.ErrRange, "i = 1 + 2147483648;": api.ErrRange,
		"i = " + nines + ";": api.ErrRange, "i = " + nines + "9;": api.ErrDigits, "i = 000000000000000001;": api.OK, "i = 0000000000000000001;": api.ErrDigits,
		"ai[2147483648] = 1;": api.ErrRange, "i = ai[2147483648];": api.ErrRange, "i = ai[" + nines + "9];": api.ErrDigits,
		"if (i < 2147483648) { }": api.ErrRange, "while (2147483648 < i) { }": api.ErrRange, "i = int(" + nines + "9);": api.ErrDigits,
		"d = 99999999999999999.9;": api.OK, "d = 0.99999999999999999;": api.OK, "d = 999999999999999999.9;": api.ErrDigits, "d = 1.999999999999999999;": api.ErrDigits,
		"f = float(2147483648);": api.ErrRange, "f = float(99999999999.0);": api.OK, "f = float(0.000000000000000000);": api.ErrDigits,
		// Of a Read the type of its variable tells what is asked.
		"read i in [0, 2147483647];": api.OK, "read i in [0, 2147483648];": api.ErrRange, "read i in [-2147483648, 0];": api.ErrRange, "read i in [-2147483647, 0];": api.OK,
		"read i in [0, " + nines + "9];": api.ErrDigits, "read i in [" + nines + "9, 0];": api.ErrDigits, "read i in [-" + nines + "9, 0];": api.ErrDigits,
		"read d in [0.0, 999999999999999999.9];": api.ErrDigits, "read d in [-999999999999999999.9, 0.0];": api.ErrDigits, "read d in [0.0, 99999999999999999.9];": api.OK,
		"read f in [0.0, 999999999999999999.9];": api.ErrDigits, "read f in [0.000000000000000000, 1.0];": api.ErrDigits, "read f in [0.0, 99999999999999999.9];": api.OK,
	} {
		checkBody(t, s, want)
	}
}

func TestOrderOfBounds(t *testing.T) {
	for s, want := range map[string]api.Errno{
		"read i in [2, 1];": api.ErrOrder, "read i in [1, 1];": api.OK, "read i in [1, 2];": api.OK, "read i in [-1, 1];": api.OK, "read i in [1, -1];": api.ErrOrder,
		"read i in [-1, -2];": api.ErrOrder, "read i in [-2, -1];": api.OK, "read i in [-0, 0];": api.OK, "read i in [0, -0];": api.OK, "read i in [10, 9];": api.ErrOrder, "read i in [007, 7];": api.OK,
		"read d in [1.0, 0.5];": api.ErrOrder, "read d in [0.5, 1.0];": api.OK, "read d in [0.0, -0.0];": api.OK, "read d in [-0.0, 0.0];": api.OK, "read d in [-1.0, -0.5];": api.OK, "read d in [-0.5, -1.0];": api.ErrOrder,
		"read d in [0.1, -0.1];": api.ErrOrder, "read d in [-0.1, 0.1];": api.OK, "read d in [10.0, 9.0];": api.ErrOrder, "read d in [1.50, 1.5];": api.OK, "read d in [0.0000000001, 0.0];": api.ErrOrder,
		"read f in [1.0, 0.5];": api.ErrOrder, "read f in [0.5, 1.0];": api.OK, "read f in [-0.5, -1.0];": api.ErrOrder, "read f in [0.0, -0.0];": api.OK, "read f in [0.1, 0.0];": api.ErrOrder,
		// These are two Doubles, but one Single.
		"read d in [16777217.0, 16777216.0];": api.ErrOrder, "read f in [16777217.0, 16777216.0];": api.OK, "read f in [-16777216.0, -16777217.0];": api.OK,
		// These are one Double.
		"read d in [9007199254740993.0, 9007199254740992.0];": api.OK,
	} {
		checkBody(t, s, want)
	}
}

// Which error is told first: along the text, Kids ahead of what has them; at one place in the order of P6.1.
func TestWhatIsToldFirst(t *testing.T) {
	long := strings.Repeat("9", api.MaxDigits+1)
	for s, want := range map[string]api.Errno{
		// The variable, then the index, then the value.
		"zz[1.0] = 2147483648;": api.ErrName, "zz = 1 + 1.0;": api.ErrName, "i[zz] = zz;": api.ErrType, "ai = zz;": api.ErrType, "ai = " + long + ";": api.ErrType,
		"ai[zz] = 1.5;": api.ErrName, "ai[1.5] = zz;": api.ErrType, "ai[" + long + "] = zz;": api.ErrDigits, "ai[2147483648] = 1.5;": api.ErrRange, "ai[0] = zz + 1.5;": api.ErrName,
		// The left one, then the right one, then what has them.
		"i = 1.5 + zz;": api.ErrName, "i = (1 + 1.5) + zz;": api.ErrType, "i = zz + (1 + 1.5);": api.ErrName, "i = 2147483648 + zz;": api.ErrRange, "i = zz + 2147483648;": api.ErrName,
		"i = " + long + " + 1.5;": api.ErrDigits, "i = 1.5 + " + long + ";": api.ErrDigits, "i = 2147483648 + " + long + ";": api.ErrRange, "i = " + long + " + 2147483648;": api.ErrDigits,
		"d = sqrt(1 + zz);": api.ErrName, "d = sqrt(2147483648);": api.ErrRange, "d = sqrt(1) + zz;": api.ErrType, "d = 2147483648;": api.ErrRange, "i = 0.000000000000000000;": api.ErrDigits,
		"i = zz[2147483648];": api.ErrRange, "i = zz[1.5];": api.ErrName, "i = zz[1 + 1.5];": api.ErrType, "i = i[zz];": api.ErrName, "i = i[2147483648];": api.ErrRange, "i = ai[1 + 1.5] + zz;": api.ErrType,
		"if (zz && 1) { }": api.ErrName, "if (1 && zz) { }": api.ErrName, "if (!1 && zz < 1) { }": api.ErrType, "if (2147483648) { }": api.ErrRange,
		// The variable, then the lower end, then the upper one, then their order.
		"read zz in [2, 1.0];": api.ErrName, "read zz in [2, 1];": api.ErrName, "read ai in [2147483648, 1];": api.ErrType, "read ai in [2, 1];": api.ErrType,
		"read i in [2.0, " + long + "];": api.ErrType, "read i in [" + long + ", 2.0];": api.ErrDigits, "read i in [2147483648, " + long + "];": api.ErrRange, "read i in [" + long + ", 2147483648];": api.ErrDigits,
		"read i in [2147483648, 1];": api.ErrRange, "read i in [2, -1.0];": api.ErrType, "read d in [2.0, 1];": api.ErrType, "read d in [2.0, 1.000000000000000000];": api.ErrDigits,
		// A number of another type than its variable is wrong whatever it says.
		"read i in [0.000000000000000000, 1];": api.ErrType, "read i in [-0.000000000000000000, 1];": api.ErrType, "read d in [" + long + ", 1.0];": api.ErrType, "read f in [-" + long + ", 1.0];": api.ErrType, "read d in [2147483648, 1.0];": api.ErrType,
	} {
		checkBody(t, s, want)
	}
}

// Points are gone through as they are numbered: an if ahead of what is in it.
func TestPlacesOfErrors(t *testing.T) {
	for s, at := range map[string]api.Point{
		"i = zz; i = 1;": 0, "i = 1; i = zz; i = zz;": 1, "if (zz) { i = zz; }": 0, "if (i < 1) { i = zz; } else { i = zz; } i = zz;": 1,
		"if (i < 1) { i = 1; } else { i = zz; } i = zz;": 2, "if (i < 1) { i = 1; } else { i = 1; } i = zz;": 3, "if (i < 1) { } i = zz;": 1,
		"while (i < 1) { while (i < 1) { i = 1; i = zz; } i = zz; }": 3, "while (i < 1) { while (i < 1) { i = 1; } i = zz; }": 3, "while (i < 1) { if (i < 1) { } else { if (zz) { } } }": 2,
	} {
		checkText(t, "int i; "+s, api.ErrName, at)
	}
	checkText(t, "int i; "+strings.Repeat("i = 1; ", api.MaxPoints-1)+"i = 1.5;", api.ErrType, api.MaxPoints-1)
}
