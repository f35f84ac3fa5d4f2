package flex_test

import (
	"slices"
	"strings"
	"testing"

	"plumbline/api"
	"plumbline/flex"
)

var words = []string{"int", "float", "double", "if", "else", "while", "read", "in", "sqrt", "abs"}

var signs = []string{"+", "-", "*", "/", "(", ")", "[", "]", "{", "}", ";", ",", "=", "==", "!=", "<", "<=", ">", ">=", "&&", "||", "!"}

const name16 = "abcdefghijklmnop"

func nameAt(text string, at int) api.Lex { return api.Lex{Kind: api.LexName, Text: text, At: at} }
func wordAt(text string, at int) api.Lex { return api.Lex{Kind: api.LexWord, Text: text, At: at} }
func intAt(text string, at int) api.Lex  { return api.Lex{Kind: api.LexInt, Text: text, At: at} }
func realAt(text string, at int) api.Lex { return api.Lex{Kind: api.LexReal, Text: text, At: at} }
func signAt(text string, at int) api.Lex { return api.Lex{Kind: api.LexSign, Text: text, At: at} }

func checkScan(t *testing.T, s string, want ...api.Lex) {
	t.Helper()
	if l, e, at := flex.Scan(s); !slices.Equal(l, want) || e != api.OK || at != 0 {
		t.Errorf("Scan(%q) = %v, %d, %d; want %v", s, l, e, at, want)
	}
}

func checkFault(t *testing.T, s string, want api.Errno, place int) {
	t.Helper()
	if l, e, at := flex.Scan(s); len(l) != 0 || e != want || at != place {
		t.Errorf("Scan(%.40q) = %d tokens, %d, %d; want %d, %d", s, len(l), e, at, want, place)
	}
}

func TestExample(t *testing.T) {
	checkScan(t, "x=1.5;", nameAt("x", 0), signAt("=", 1), realAt("1.5", 2), signAt(";", 5))
}

func TestScanOfNothing(t *testing.T) {
	for _, s := range []string{"", " ", "\t", "\n", "\r", " \t\r\n \n", strings.Repeat(" ", api.MaxText)} {
		checkScan(t, s)
	}
}

func TestScanOfOneToken(t *testing.T) {
	for _, w := range words {
		checkScan(t, w, wordAt(w, 0))
		checkScan(t, w+"1", nameAt(w+"1", 0))
		checkScan(t, w+"_", nameAt(w+"_", 0))
		checkScan(t, w+"s", nameAt(w+"s", 0))
		checkScan(t, strings.ToUpper(w), nameAt(strings.ToUpper(w), 0))
		checkScan(t, w[:1], nameAt(w[:1], 0))
		checkScan(t, "x"+w, nameAt("x"+w, 0))
	}
	for _, s := range signs {
		checkScan(t, s, signAt(s, 0))
	}
	for _, n := range []string{"a", "z", "A", "Z", "x1", "x_", "x__1", "x0123456789", "aZ9_", name16, "ABCDEFGHIJKLMNOP", "a123456789012345", "a_______________"} {
		checkScan(t, n, nameAt(n, 0))
	}
	for _, n := range []string{"0", "9", "10", "007", strings.Repeat("1", 100), strings.Repeat("9", api.MaxText)} {
		checkScan(t, n, intAt(n, 0))
	}
	for _, n := range []string{"0.0", "1.5", "00.00", "12.345", strings.Repeat("1", 50) + "." + strings.Repeat("2", 50)} {
		checkScan(t, n, realAt(n, 0))
	}
}

func TestScanTakesTheLongest(t *testing.T) {
	checkScan(t, "===", signAt("==", 0), signAt("=", 2))
	checkScan(t, "!==", signAt("!=", 0), signAt("=", 2))
	checkScan(t, "=!=", signAt("=", 0), signAt("!=", 1))
	checkScan(t, "<==", signAt("<=", 0), signAt("=", 2))
	checkScan(t, "=<", signAt("=", 0), signAt("<", 1))
	checkScan(t, ">>=", signAt(">", 0), signAt(">=", 1))
	checkScan(t, "!!x", signAt("!", 0), signAt("!", 1), nameAt("x", 2))
	checkScan(t, "&&&&", signAt("&&", 0), signAt("&&", 2))
	checkScan(t, "||||", signAt("||", 0), signAt("||", 2))
	checkScan(t, "--1", signAt("-", 0), signAt("-", 1), intAt("1", 2))
	checkScan(t, "1x", intAt("1", 0), nameAt("x", 1))
	checkScan(t, "1.5x", realAt("1.5", 0), nameAt("x", 3))
	checkScan(t, "12int", intAt("12", 0), wordAt("int", 2))
	checkScan(t, "ifx if x", nameAt("ifx", 0), wordAt("if", 4), nameAt("x", 7))
	checkScan(t, "1 2", intAt("1", 0), intAt("2", 2))
	checkScan(t, "a[3]=b;", nameAt("a", 0), signAt("[", 1), intAt("3", 2), signAt("]", 3), signAt("=", 4), nameAt("b", 5), signAt(";", 6))
	checkScan(t, "sqrt(x)", wordAt("sqrt", 0), signAt("(", 4), nameAt("x", 5), signAt(")", 6))
}

func TestScanOfBlanks(t *testing.T) {
	want := []string{"x", "=", "1.5", ";"}
	for _, s := range []string{"x=1.5;", "x = 1.5 ;", " x\t=\n1.5\r;\n", "\r\nx  =\t\t1.5\n\n;  "} {
		l, e, at := flex.Scan(s)
		if e != api.OK || at != 0 || !slices.Equal(texts(l), want) {
			t.Errorf("Scan(%q) = %v, %d, %d", s, l, e, at)
		}
		for _, x := range l {
			if !strings.HasPrefix(s[x.At:], x.Text) {
				t.Errorf("Scan(%q): %v is not at its place", s, x)
			}
		}
	}
	checkScan(t, "< =", signAt("<", 0), signAt("=", 2))
	checkScan(t, "i f", nameAt("i", 0), nameAt("f", 2))
	checkFault(t, "1 .5", api.ErrChar, 2)
	checkFault(t, "1. 5", api.ErrChar, 1)
	checkFault(t, "& &", api.ErrChar, 0)
	for _, c := range []string{"\x00", "\x08", "\x0b", "\x0c", "\x0e", "\x1f", "\x7f", "\u0085", "\u00a0", "\u2003", "\u3000"} {
		checkFault(t, "x"+c+"y", api.ErrChar, 1)
	}
}

func TestScanOfWhatCannotBe(t *testing.T) {
	for s, place := range map[string]int{
		"$": 0, "a $": 2, "a$b": 1, ".": 0, ".5": 0, "1.": 1, "1.x": 1, "1..5": 1, "1.5.": 3, "1.5.5": 3, "x.y": 1,
		"&": 0, "|": 0, "a & b": 2, "a | b": 2, "&&&": 2, "|||": 2, "&|": 0, "_": 0, "_x": 0, "1_": 1, "x _": 2,
		"\"": 0, "'": 0, "#": 0, "%": 0, "?": 0, "@": 0, "\\": 0, "^": 0, "`": 0, "~": 0, ":": 0,
		"\x80": 0, "x\xff": 1, "1\xc3\xa9": 1, "é": 0, "xé": 1, "x = é;": 4, "１": 0, "x１": 1, "1１": 1, "1.１": 1, "１.5": 0, "ａ": 0, "\xef\xbb\xbfx": 0, "x;\xe2\x82": 2,
	} {
		checkFault(t, s, api.ErrChar, place)
	}
	for b := 128; b < 256; b++ {
		checkFault(t, "ab "+string([]byte{byte(b)}), api.ErrChar, 3)
	}
}

func TestScanOfLongNames(t *testing.T) {
	checkScan(t, "x "+name16+" y", nameAt("x", 0), nameAt(name16, 2), nameAt("y", 19))
	checkScan(t, name16+"+"+name16, nameAt(name16, 0), signAt("+", 16), nameAt(name16, 17))
	for _, c := range []string{"q", "0", "_", "Z", "int"} {
		checkFault(t, name16+c, api.ErrChar, 0)
		checkFault(t, "x + "+name16+c+";", api.ErrChar, 4)
	}
	checkFault(t, name16+"q $", api.ErrChar, 0)
	checkFault(t, "x "+strings.Repeat("a", 5000), api.ErrChar, 2)
	checkFault(t, "1"+name16+"q", api.ErrChar, 1)
}

func TestScanAtTheLimitOfText(t *testing.T) {
	checkScan(t, strings.Repeat(" ", api.MaxText-1)+"x", nameAt("x", api.MaxText-1))
	checkScan(t, "x"+strings.Repeat("\n", api.MaxText-1), nameAt("x", 0))
	for _, s := range []string{" ", "1", "x", "$", ";", "\xff", "x ;"} {
		checkFault(t, strings.Repeat(s, api.MaxText/len(s)+1), api.ErrLimit, 0)
		checkFault(t, strings.Repeat(s, 1<<18), api.ErrLimit, 0)
	}
	checkFault(t, strings.Repeat(" ", api.MaxText-1)+"$", api.ErrChar, api.MaxText-1)
	checkFault(t, strings.Repeat(" ", api.MaxText)+"$", api.ErrLimit, 0)
}

func TestScanAtTheLimitOfTokens(t *testing.T) {
	for _, s := range []string{";", "; ", "x;", "1 ", "&&", "==", "if("} {
		l, e, _ := flex.Scan(s)
		if e != api.OK {
			t.Fatal(s, e)
		}
		full := strings.Repeat(s, api.MaxTokens/len(l))
		if l, e, at := flex.Scan(full); len(l) != api.MaxTokens || e != api.OK || at != 0 {
			t.Errorf("of many %q: %d, %d, %d", s, len(l), e, at)
		}
		if l, e, at := flex.Scan(full + " \n "); len(l) != api.MaxTokens || e != api.OK || at != 0 {
			t.Errorf("of many %q and blanks: %d, %d, %d", s, len(l), e, at)
		}
		checkFault(t, full+" ;", api.ErrLimit, len(full)+1)
		checkFault(t, full+"  x y $", api.ErrLimit, len(full)+2)
		checkFault(t, full+"$", api.ErrChar, len(full))
		checkFault(t, full+" "+name16+"q", api.ErrChar, len(full)+1)
		checkFault(t, "$"+full+";", api.ErrChar, 0)
	}
}

func texts(l []api.Lex) []string {
	var all []string
	for _, x := range l {
		all = append(all, x.Text)
	}
	return all
}

func TestJoin(t *testing.T) {
	for _, c := range []struct {
		l    []api.Lex
		want string
	}{
		{nil, ""},
		{[]api.Lex{}, ""},
		{[]api.Lex{nameAt("x", 0)}, "x"},
		{[]api.Lex{nameAt("x", 7), signAt("=", 3), realAt("1.5", 0)}, "x = 1.5"},
		{[]api.Lex{{}}, ""},
		{[]api.Lex{{}, {}}, " "},
		{[]api.Lex{{}, {}, {}}, "  "},
		{[]api.Lex{{Kind: -1, Text: "\xff $", At: -1}, {Kind: 99, Text: "\n", At: 1 << 62}}, "\xff $ \n"},
	} {
		if got := flex.Join(c.l...); got != c.want {
			t.Errorf("Join(%v) = %q", c.l, got)
		}
	}
	if got := flex.Join(); got != "" {
		t.Errorf("Join() = %q", got)
	}
}

// P3 of the document: what is handed in stays, spare room too, and no two answers share a list.
func TestNothingIsShared(t *testing.T) {
	l := []api.Lex{nameAt("a", 0), signAt("+", 1), nameAt("b", 2), nameAt("c", 3)}
	kept := slices.Clone(l)
	if got := flex.Join(l[:2]...); got != "a +" || !slices.Equal(l, kept) {
		t.Error(got, l)
	}
	first, _, _ := flex.Scan("a + b")
	other, _, _ := flex.Scan("a + b")
	first[0] = api.Lex{}
	_ = append(first[:1], api.Lex{}, api.Lex{})
	if again, _, _ := flex.Scan("a + b"); other[0] != nameAt("a", 0) || !slices.Equal(other, again) {
		t.Error(other, again)
	}
}

func TestIsName(t *testing.T) {
	for _, s := range []string{"a", "z", "A", "Z", "x1", "x_", "aZ9_", "Int", "INT", "ints", "in1", "if_", name16, "a123456789012345"} {
		if !flex.IsName(s) {
			t.Errorf("%q is a name", s)
		}
	}
	l := append([]string{"", "1", "1x", "_", "_x", " ", " x", "x ", "x y", "x\n", "x-y", "x.y", "x\x00", "\x00", "é", "xé", "x\xff", "\xff", "x１", "a@", "a[", "a`", "a{", "@a", "[a", "`a", "{a", "a/", "a:", name16 + "q", name16 + "0", name16 + "_", strings.Repeat("a", 5000)}, words...)
	for _, s := range append(l, signs...) {
		if flex.IsName(s) {
			t.Errorf("%q is no name", s)
		}
	}
}

func TestIsWord(t *testing.T) {
	for _, s := range words {
		if !flex.IsWord(s) {
			t.Errorf("%q is a word", s)
		}
		for _, other := range []string{strings.ToUpper(s), " " + s, s + " ", s + "s", s[:len(s)-1] + "\xff", s + "\x00", "_" + s} {
			if flex.IsWord(other) {
				t.Errorf("%q is no word", other)
			}
		}
	}
	for _, s := range append([]string{"", "x", "1", "for", "return", "true", "do", "i", "flo", "e", name16}, signs...) {
		if flex.IsWord(s) {
			t.Errorf("%q is no word", s)
		}
	}
}
