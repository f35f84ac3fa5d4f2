package fparse_test

import (
	"strconv"
	"strings"
	"testing"

	"plumbline/api"
	"plumbline/fparse"
)

func checkOK(t *testing.T, s string) {
	t.Helper()
	if _, e, at := fparse.Parse(s); e != api.OK || at != 0 {
		t.Errorf("Parse(%.160q) has the error %d at %d", s, e, at)
	}
}

// checkLimit: what is made of n is a program at the limit, and none at one more.
func checkLimit(t *testing.T, limit int, made func(n int) string) {
	t.Helper()
	checkOK(t, made(limit))
	checkFault(t, made(limit+1), api.ErrLimit, 0)
	checkFault(t, made(limit+1)+" ;", api.ErrForm, len(made(limit+1))+1)
	checkFault(t, made(limit+1)+" ; $", api.ErrChar, len(made(limit+1))+3)
}

// around is n times what opens, then the middle, then n times what closes.
func around(n int, opens, middle, closes string) string {
	return strings.Repeat(opens, n) + middle + strings.Repeat(closes, n)
}

func TestLimitOfDeclarations(t *testing.T) {
	checkLimit(t, api.MaxVars, func(n int) string {
		s := ""
		for i := range n {
			s += "int x" + strconv.Itoa(i) + "; "
		}
		return s + "x0 = 1;"
	})
}

func TestLimitOfPoints(t *testing.T) {
	checkLimit(t, api.MaxPoints, func(n int) string { return strings.Repeat("x = 1;", n) })
	checkLimit(t, api.MaxPoints, func(n int) string { return "if (x) {" + strings.Repeat("x = 1;", n-1) + "}" })
	checkLimit(t, api.MaxPoints, func(n int) string { return "while (x) {" + strings.Repeat("x = 1;", n-1) + "}" })
	checkLimit(t, api.MaxPoints, func(n int) string { return "if (x) { } else {" + strings.Repeat("x = 1;", n-2) + "} x = 1;" })
	checkLimit(t, api.MaxPoints, func(n int) string { return strings.Repeat("if(x){}", n) })
}

func TestLimitOfCells(t *testing.T) {
	for _, kind := range []string{"int", "float", "double"} {
		checkLimit(t, api.MaxCells, func(n int) string { return kind + " a[" + strconv.Itoa(n) + "];" })
		for _, cells := range []string{"0", "00", "65", "100", "065", "2147483648", "4294967297", "9223372036854775808", "18446744073709551617", strings.Repeat("9", 100), strings.Repeat("0", 100)} {
			checkFault(t, kind+" a["+cells+"];", api.ErrLimit, 0)
			checkFault(t, kind+" a["+cells+"]; int", api.ErrForm, len(kind+" a["+cells+"]; int"))
		}
	}
}

func TestLimitOfBlocks(t *testing.T) {
	for _, opens := range []string{"if (x) { ", "while (x) { ", "if (x) { } else { ", "x = 1; if (x) { x = 2; } else { "} {
		checkLimit(t, api.MaxDeep, func(n int) string { return around(n-1, opens, "x = 1; ", "} ") })
		checkLimit(t, api.MaxDeep, func(n int) string { return around(n-1, opens, "read x in [0, 1]; ", "} ") })
		checkLimit(t, api.MaxDeep, func(n int) string { return around(n-1, opens, "", "} ") })
	}
}

func TestLimitOfExpressions(t *testing.T) {
	for _, c := range []struct{ opens, middle, closes string }{
		{"-", "1", ""}, {"!", "x", ""}, {"-!", "1", ""}, {"sqrt(", "1.0", ")"}, {"abs(", "x", ")"}, {"int(", "x", ")"}, {"a[", "i", "]"},
		{"", "1", " + 1"}, {"", "x", " || x"}, {"", "x", " < x"}, {"1 * (", "1 - 1", ")"}, {"(", "1 + x", ") / 2"}, {"-(", "1 < x", ")"},
	} {
		// How much deeper each one makes it, and what the middle is by itself.
		step, first := 1, 1
		if c.opens == "-!" {
			step = 2
		}
		if strings.Contains(c.middle, " ") {
			first = 2
		}
		made := func(n int) string {
			n -= first
			if n%step != 0 {
				return "x = -" + around(n/step, c.opens, c.middle, c.closes) + ";"
			}
			return "x = " + around(n/step, c.opens, c.middle, c.closes) + ";"
		}
		checkLimit(t, api.MaxDeep, made)
		checkLimit(t, api.MaxDeep, func(n int) string { return "if (" + strings.TrimSuffix(made(n)[4:], ";") + ") { }" })
		checkLimit(t, api.MaxDeep, func(n int) string { return "x[" + strings.TrimSuffix(made(n)[4:], ";") + "] = 1;" })
	}
}

// ( ) around an expression leave nothing in a tree, and ( ) have a limit of their own: those of an expression that stand in each other, whatever stands between. Those of an if or a while are none of the expression.
func TestLimitOfBrackets(t *testing.T) {
	for _, c := range []struct{ ahead, middle, behind string }{
		{"x = ", "1", ";"}, {"x = ", "1 + 2", ";"}, {"x = 1 + ", "x", " * 2;"}, {"x = -", "x", ";"},
		{"x[", "1", "] = 1;"}, {"x = a[", "1", "];"}, {"if (", "x", ") { }"}, {"while (", "x", ") { }"},
		{"x = (1) + ", "1", " + (1);"}, {"x = (1); x = ", "1", "; x = (1);"},
	} {
		checkLimit(t, api.MaxDeep, func(n int) string { return c.ahead + around(n, "(", c.middle, ")") + c.behind })
	}
	half := api.MaxDeep / 2
	checkLimit(t, api.MaxDeep, func(n int) string {
		return "x = " + around(half, "(", "a["+around(n-half, "(", "1", ")")+"]", ")") + ";"
	})
	checkLimit(t, api.MaxDeep, func(n int) string {
		return "x = " + around(half, "(", "1 + "+around(n-half, "(", "1", ")"), ")") + ";"
	})
	// Beside each other they are not deeper.
	many := around(api.MaxDeep, "(", "1", ")")
	checkParse(t, "x = "+many+" + "+many+"; if ("+many+") { x["+many+"] = "+many+"; }", body(
		assign("x", with(api.Add, one("1"), one("1"))),
		choose(one("1"), list(store("x", one("1"), one("1"))), nil)))
	checkFault(t, "x = "+around(api.MaxDeep+1, "(", "1", ")")+"; x = 1 1;", api.ErrForm, len("x = "+around(api.MaxDeep+1, "(", "1", ")")+"; x = 1 "))
}

// The ( ) of a call are ( ) of the expression, too: around the others, in them, and by turns with them.
func TestLimitOfBracketsOfCalls(t *testing.T) {
	for _, call := range []string{"sqrt(", "abs(", "int(", "float(", "double("} {
		for _, made := range []func(n int) string{
			func(n int) string { return call + around(n-1, "(", "x", ")") + ")" },
			func(n int) string { return around(n-1, "(", call+"x)", ")") },
			func(n int) string { return around(n/2, call+"(", around(n%2, call, "x", ")"), "))") },
			func(n int) string { return "1 + " + around(n-2, "(", "-"+call+"a["+call+"x)])", ")") + " * 2" },
			func(n int) string { return call + "1) + " + around(n-3, "(", call+"("+call+"x)))", ")") + " + (1)" },
		} {
			checkLimit(t, api.MaxDeep, func(n int) string { return "x = " + made(n) + ";" })
			checkLimit(t, api.MaxDeep, func(n int) string { return "x[" + made(n) + "] = 1;" })
			checkLimit(t, api.MaxDeep, func(n int) string { return "if (" + made(n) + ") { }" })
			checkLimit(t, api.MaxDeep, func(n int) string { return "while (x) { x = " + made(n) + "; }" })
		}
		// Beside each other they are not deeper.
		most := call + around(api.MaxDeep-1, "(", "1", ")") + ")"
		checkOK(t, "x = "+most+" + "+most+"; x["+most+"] = "+most+";")
	}
}

// x in ( ), each in the next one, of calls by dice and around an expression: one pair more is too deep, whichever it is.
func TestLimitOfMixedBrackets(t *testing.T) {
	d := dice(1181783497276652981)
	for range 500 {
		s := "x"
		for range api.MaxDeep {
			s = pick(&d, "", "", "", "sqrt", "abs", "int", "float", "double") + "(" + s + ")"
		}
		checkOK(t, "x = "+s+";")
		for _, word := range []string{"", "sqrt", "abs", "int", "float", "double"} {
			checkFault(t, "x = "+word+"("+s+");", api.ErrLimit, 0)
		}
	}
}

// As many tokens as there may be, all of them of one thing in another one.
func TestDeepestTexts(t *testing.T) {
	n := api.MaxTokens
	checkFault(t, "x="+strings.Repeat("(", n-2), api.ErrForm, n)
	checkFault(t, "x="+around((n-4)/2, "(", "1", ")")+";", api.ErrLimit, 0)
	checkFault(t, "x="+strings.Repeat("-", n-4)+"1;", api.ErrLimit, 0)
	checkFault(t, "x=1"+strings.Repeat("+1", (n-4)/2)+";", api.ErrLimit, 0)
	checkFault(t, "x="+strings.Repeat("a[", (n-2)/2), api.ErrForm, n)
	checkFault(t, strings.Repeat("if(x){", n/6), api.ErrForm, n/6*6)
	checkFault(t, around(n/7, "if(x){", "", "}"), api.ErrLimit, 0)
}
