package fparse_test

import (
	"slices"
	"strings"
	"testing"

	"plumbline/api"
	"plumbline/flex"
	"plumbline/fparse"
)

// Where a text goes wrong is worked out here once more: by rules, and by all that they leave possible behind each token (Earley's way).

// rules: what a part may be made of. What stands at the left of none is a token: NAME, INT, REAL, or itself.
var rules = map[string][]string{
	"program":      {"declarations statements"},
	"declarations": {"", "declarations declaration"},
	"declaration":  {"type NAME ;", "type NAME [ INT ] ;"},
	"type":         {"int", "float", "double"},
	"statements":   {"", "statements statement"},
	"statement":    {"NAME = expression ;", "NAME [ expression ] = expression ;", "read NAME in [ bound , bound ] ;", "if ( expression ) block", "if ( expression ) block else block", "while ( expression ) block"},
	"block":        {"{ statements }"},
	"bound":        {"number", "- number"},
	"number":       {"INT", "REAL"},
	"operator":     {"||", "&&", "==", "!=", "<", "<=", ">", ">=", "+", "-", "*", "/"},
	"expression":   {"simple", "expression operator simple"},
	"simple":       {"number", "NAME", "NAME [ expression ]", "( expression )", "call ( expression )", "- simple", "! simple"},
	"call":         {"sqrt", "abs", "type"},
}

// item is a rule of which some parts are there, since the token of that number.
type item struct {
	left, right string
	done, since int
}

func (i item) next() string {
	if parts := strings.Fields(i.right); i.done < len(parts) {
		return parts[i.done]
	}
	return ""
}

func (i item) on() item {
	i.done++
	return i
}

// closed is a set with all that follows of it; behind are the sets behind the tokens ahead.
func closed(set []item, behind [][]item) []item {
	add := func(i item) {
		if !slices.Contains(set, i) {
			set = append(set, i)
		}
	}
	for k := 0; k < len(set); k++ {
		i := set[k]
		part := i.next()
		for _, right := range rules[part] {
			add(item{left: part, right: right, since: len(behind)})
			if right == "" {
				add(i.on())
			}
		}
		if part != "" {
			continue
		}
		from := set
		if i.since < len(behind) {
			from = behind[i.since]
		}
		for _, waiting := range from {
			if waiting.next() == i.left {
				add(waiting.on())
			}
		}
	}
	return set
}

func classOf(l api.Lex) string {
	switch l.Kind {
	case api.LexName:
		return "NAME"
	case api.LexInt:
		return "INT"
	case api.LexReal:
		return "REAL"
	}
	return l.Text
}

// wrongAt is the place of the first token that no program goes on with; -1, if there is none.
func wrongAt(l []api.Lex, end int) int {
	var behind [][]item
	set := closed([]item{{left: "program", right: rules["program"][0]}}, nil)
	for _, token := range l {
		behind = append(behind, set)
		var next []item
		for _, i := range set {
			if i.next() == classOf(token) {
				next = append(next, i.on())
			}
		}
		if len(next) == 0 {
			return token.At
		}
		set = closed(next, behind)
	}
	if slices.Contains(set, item{left: "program", right: rules["program"][0], done: 2}) {
		return -1
	}
	return end
}

func checkPlace(t *testing.T, s string) {
	t.Helper()
	l, e, _ := flex.Scan(s)
	if e != api.OK {
		t.Fatalf("Scan(%q): %d", s, e)
	}
	want := wrongAt(l, len(s))
	if want >= 0 {
		checkFault(t, s, api.ErrForm, want)
		return
	}
	if _, e, _ := fparse.Parse(s); e != api.OK && e != api.ErrLimit {
		t.Errorf("Parse(%q) has the error %d", s, e)
	}
}

var vocabulary = strings.Fields("int float double if else while read in sqrt abs x 1 1.5 + - * / ( ) [ ] { } ; , = == != < <= > >= && || !")

func TestPlacesByHand(t *testing.T) {
	for s, at := range map[string]int{
		"x": 1, "x ": 2, " x \n": 4, "int": 3, "int ": 4, "int 1;": 4, "int x y;": 6, "int x[];": 6, "int x[1.0];": 6, "int x[-1];": 6, "int x[y];": 6, "int x[1;": 7, "int x[1]": 8, "int x[1][2];": 8, "int x = 1;": 6, "int x, y;": 5, "int if;": 4, "int int;": 4,
		"1 = x;": 0, "= 1;": 0, ";": 0, "x;": 1, "x == 1;": 2, "x = ;": 4, "x = 1": 5, "x = 1 2;": 6, "x = 1,": 5, "x = y z;": 6, "x = (1;": 6, "x = 1);": 5, "x = ();": 5, "x = 1 + ;": 8, "x = 1 + * 2;": 8, "x = + 1;": 4, "x = 1 !;": 6, "x = 1 ! 2;": 6, "x = !;": 5, "x = sqrt x;": 9, "x = sqrt();": 9, "x = sqrt(1, 2);": 10, "x = int;": 7, "x = read;": 4, "x = if;": 4, "x = x(1);": 5, "x = 1[2];": 5, "x = (y)[1];": 7, "x = y[1][2];": 8, "x = y[];": 6, "x = y = 1;": 6, "x[] = 1;": 2, "x[1 = 1;": 4, "x[1] == 1;": 5, "-x = 1;": 0, "(x) = 1;": 0, "x = 1;;": 6, "x = 1; }": 7,
		"read": 4, "read 1": 5, "read x": 6, "read x [0, 1];": 7, "read x in (0, 1);": 10, "read x in [y, 1];": 11, "read x in [--1, 1];": 12, "read x in [-y, 1];": 12, "read x in [!1, 1];": 11, "read x in [0 1];": 13, "read x in [0 + 1, 1];": 13, "read x in [0, 1);": 15, "read x in [0, 1]": 16, "read x in [0, (1)];": 14, "read x[1] in [0, 1];": 6, "read x in [, 1];": 11, "read x in [0, ];": 14,
		"if": 2, "if x": 3, "if (": 4, "if ()": 4, "if (x": 5, "if (x)": 6, "if (x) x = 1;": 7, "if (x) {": 8, "if (x) { x": 10, "if (x) { int y; }": 9, "if (x) { } else": 15, "if (x) { } else if (y) { }": 16, "if (x) { } else { } else { }": 20, "if (x) { };": 10, "else { }": 0, "if (x = 1) { }": 6,
		"while": 5, "while { }": 6, "while () { }": 7, "while (x) ;": 10, "while (x) { } else { }": 14, "{ }": 0, "{ x = 1; }": 0, "x = 1; int y;": 7, "int x; x = 1; float y;": 14,
		"sqrt(1);": 0, "in": 0, "double(x) = 1;": 6,
	} {
		checkFault(t, s, api.ErrForm, at)
		checkPlace(t, s)
	}
}

// All texts of a few tokens, of which nearly all are wrong.
func TestPlacesInShortTexts(t *testing.T) {
	for _, a := range vocabulary {
		checkPlace(t, a)
		for _, b := range vocabulary {
			checkPlace(t, a+" "+b)
			for _, c := range vocabulary {
				checkPlace(t, a+" "+b+" "+c)
			}
		}
	}
}

// A program, cut at each token, and with each token at each place: in its stead, and ahead of it.
func TestPlacesInOneProgram(t *testing.T) {
	l := strings.Fields("int a [ 4 ] ; float x ; read x in [ - 1.0 , 2.5 ] ; a [ i + 1 ] = int ( x ) ; if ( ! x < - 1 ) { x = ( 1 ) ; } else { while ( sqrt ( x ) == a [ 0 ] ) { } }")
	for i := range len(l) + 1 {
		checkPlace(t, strings.Join(l[:i], " "))
		for _, w := range vocabulary {
			checkPlace(t, strings.Join(slices.Insert(slices.Clone(l), i, w), " "))
			if i < len(l) {
				checkPlace(t, strings.Join(slices.Replace(slices.Clone(l), i, i+1, w), " "))
			}
		}
		if i < len(l) {
			checkPlace(t, strings.Join(slices.Delete(slices.Clone(l), i, i+1), " "))
		}
	}
}

// Programs by dice, with something wrong in most of them.
func TestPlacesInManyPrograms(t *testing.T) {
	d := dice(88172645463325252)
	for range 1500 {
		text, e := fparse.Print(d.program(3, 3))
		if e != api.OK {
			t.Fatal(e)
		}
		tokens, _, _ := flex.Scan(text)
		if len(tokens) == 0 || len(tokens) > 150 {
			continue
		}
		var l []string
		for _, token := range tokens {
			l = append(l, token.Text)
		}
		at := d.below(len(l))
		switch d.below(5) {
		case 0:
			l[at] = pick(&d, vocabulary...)
		case 1:
			l = slices.Insert(l, at, pick(&d, vocabulary...))
		case 2:
			l = slices.Delete(l, at, at+1)
		case 3:
			other := d.below(len(l))
			l[at], l[other] = l[other], l[at]
		case 4:
			l = l[:at]
		}
		checkPlace(t, strings.Join(l, pick(&d, " ", "\n", "  \t")))
	}
}

// What flex has against a text goes ahead of what is wrong with its form.
func TestFaultsOfTokens(t *testing.T) {
	for s, at := range map[string]int{"?": 0, "x = 1; $": 7, ") ) ?": 4, "x = .5;": 4, "int x\x00;": 5, "x = abcdefghijklmnopq;": 4, "; é": 2, "x = 1.;": 5} {
		checkFault(t, s, api.ErrChar, at)
	}
	checkFault(t, strings.Repeat(" ", api.MaxText+1), api.ErrLimit, 0)
	checkFault(t, strings.Repeat("?", api.MaxText+1), api.ErrLimit, 0)
	checkFault(t, strings.Repeat(";", api.MaxTokens+1), api.ErrLimit, api.MaxTokens)
	checkFault(t, strings.Repeat(";", api.MaxTokens), api.ErrForm, 0)
	checkFault(t, strings.Repeat("x", api.MaxText), api.ErrChar, 0)
}

// Texts of any bytes are answered.
func TestParseOfAnyBytes(t *testing.T) {
	d := dice(99)
	for range 3000 {
		raw := make([]byte, d.below(40))
		for i := range raw {
			raw[i] = byte(d.next())
			if d.below(2) == 0 {
				raw[i] = pick(&d, []byte("x1.5;()[]{}=+-*/<>!&| \n,")...)
			}
		}
		s := string(raw)
		l, e, at := flex.Scan(s)
		if e != api.OK {
			checkFault(t, s, e, at)
		} else if at := wrongAt(l, len(s)); at >= 0 {
			checkFault(t, s, api.ErrForm, at)
		}
	}
}
