package fparse_test

import (
	"slices"
	"strings"
	"testing"
	"unsafe"

	"plumbline/api"
	"plumbline/flex"
	"plumbline/fparse"
)

func checkPrint(t *testing.T, p api.Program, want string) {
	t.Helper()
	if s, e := fparse.Print(p); s != want || e != api.OK {
		t.Errorf("Print(%v) = %q, %d; want %q", p, s, e, want)
	}
	if p2, e, _ := fparse.Parse(want); e != api.OK || !alikePrograms(p2, p) {
		t.Errorf("Parse(%q) = %v, %d; want %v", want, p2, e, p)
	}
}

func checkPrintValue(t *testing.T, e api.Expr, want string) {
	t.Helper()
	checkPrint(t, body(assign("x", e)), "x = "+want+";\n")
	checkPrint(t, body(store("x", e, e)), "x["+want+"] = "+want+";\n")
	checkPrint(t, body(choose(e, nil, nil)), "if ("+want+") {\n}\n")
	checkPrint(t, body(loop(e)), "while ("+want+") {\n}\n")
}

func TestPrintOfDeclarations(t *testing.T) {
	checkPrint(t, api.Program{}, "")
	checkPrint(t, declared(
		api.Decl{Name: "i", Type: api.IntType}, api.Decl{Name: "f", Type: api.FloatType}, api.Decl{Name: "d", Type: api.DoubleType},
		api.Decl{Name: "a", Type: api.IntType, Cells: 4}, api.Decl{Name: "b", Type: api.FloatType, Cells: 1}, api.Decl{Name: "c", Type: api.DoubleType, Cells: 64},
	), "int i;\nfloat f;\ndouble d;\nint a[4];\nfloat b[1];\ndouble c[64];\n")
}

func TestPrintOfStatements(t *testing.T) {
	c, x := name("c"), name("x")
	set := assign("x", one("1"))
	p := body(
		assign("x", with(api.Add, one("1"), one("2"))),
		store("x", name("i"), one("2")),
		read("x", one("0.0"), one("1.0")),
		read("x", with(api.Neg, one("1")), with(api.Neg, one("0"))))
	p.Decls = []api.Decl{{Name: "x", Type: api.IntType, Cells: 4}}
	checkPrint(t, p, "int x[4];\nx = 1 + 2;\nx[i] = 2;\nread x in [0.0, 1.0];\nread x in [-1, -0];\n")
	checkPrint(t, body(choose(c, list(set), nil)), "if (c) {\n  x = 1;\n}\n")
	checkPrint(t, body(choose(c, list(set), list(set, set))), "if (c) {\n  x = 1;\n} else {\n  x = 1;\n  x = 1;\n}\n")
	checkPrint(t, body(choose(c, nil, list(set))), "if (c) {\n} else {\n  x = 1;\n}\n")
	checkPrint(t, body(choose(c, nil, []api.Stmt{}), set), "if (c) {\n}\nx = 1;\n")
	checkPrint(t, body(loop(c, set), set), "while (c) {\n  x = 1;\n}\nx = 1;\n")
	checkPrint(t, body(loop(x, choose(c, list(loop(c, set)), list(read("x", one("1"), one("2")))), set)),
		"while (x) {\n  if (c) {\n    while (c) {\n      x = 1;\n    }\n  } else {\n    read x in [1, 2];\n  }\n  x = 1;\n}\n")
}

func TestPrintOfExpressions(t *testing.T) {
	x, y, z := name("x"), name("y"), name("z")
	checkPrintValue(t, one("007.50"), "007.50")
	checkPrintValue(t, cell("a", with(api.Add, x, one("1"))), "a[x + 1]")
	checkPrintValue(t, with(api.Sqrt, with(api.Add, x, y)), "sqrt(x + y)")
	checkPrintValue(t, with(api.Abs, with(api.Neg, x)), "abs(-x)")
	checkPrintValue(t, cast(api.IntType, cast(api.FloatType, cast(api.DoubleType, x))), "int(float(double(x)))")
	checkPrintValue(t, with(api.Neg, with(api.Neg, with(api.Not, with(api.Not, x)))), "--!!x")
	checkPrintValue(t, with(api.Neg, cell("a", x)), "-a[x]")
	checkPrintValue(t, with(api.Not, with(api.Sqrt, x)), "!sqrt(x)")
	for _, a := range between {
		checkPrintValue(t, with(a.op, x, y), "x "+a.sign+" y")
		checkPrintValue(t, with(a.op, with(api.Neg, x), with(api.Neg, y)), "-x "+a.sign+" -y")
		checkPrintValue(t, with(a.op, with(api.Not, x), with(api.Abs, y)), "!x "+a.sign+" abs(y)")
		checkPrintValue(t, with(api.Neg, with(a.op, x, y)), "-(x "+a.sign+" y)")
		checkPrintValue(t, with(api.Not, with(a.op, x, y)), "!(x "+a.sign+" y)")
		checkPrintValue(t, with(api.Abs, with(a.op, x, y)), "abs(x "+a.sign+" y)")
		for _, b := range between {
			left, right := "(x "+a.sign+" y) "+b.sign+" z", "x "+a.sign+" (y "+b.sign+" z)"
			if a.strength >= b.strength {
				left = "x " + a.sign + " y " + b.sign + " z"
			}
			if b.strength > a.strength {
				right = "x " + a.sign + " y " + b.sign + " z"
			}
			checkPrintValue(t, with(b.op, with(a.op, x, y), z), left)
			checkPrintValue(t, with(a.op, x, with(b.op, y, z)), right)
		}
	}
}

func textsOf(l []api.Lex) []string {
	var texts []string
	for _, token := range l {
		texts = append(texts, token.Text)
	}
	return texts
}

// pairs are the places of ( and ) of the brackets that are no call's and no statement's.
func pairs(l []api.Lex) [][2]int {
	var found [][2]int
	var open []int
	for i, token := range l {
		switch token.Text {
		case "(":
			open = append(open, i)
		case ")":
			from := open[len(open)-1]
			open = open[:len(open)-1]
			if from > 0 && l[from-1].Kind != api.LexWord {
				found = append(found, [2]int{from, i})
			}
		}
	}
	return found
}

// What is printed is parsed as the same program, and none of its ( ) may be left out.
func TestThereAndBack(t *testing.T) {
	d := dice(777)
	left := 0
	for range 1500 {
		p := d.program(4, 5)
		text, e := fparse.Print(p)
		if e == api.ErrLimit {
			continue
		}
		back, f, _ := fparse.Parse(text)
		if e != api.OK || f != api.OK || !alikePrograms(back, p) || !fparse.Same(back, p) {
			t.Fatalf("%v is printed as %q (%d), and parsed as %v (%d)", p, text, e, back, f)
		}
		if again, e := fparse.Print(back); again != text || e != api.OK {
			t.Fatalf("%q is printed again as %q, %d", text, again, e)
		}
		l, _, _ := flex.Scan(text)
		for _, pair := range pairs(l) {
			left++
			texts := textsOf(l)
			without := slices.Delete(slices.Delete(texts, pair[1], pair[1]+1), pair[0], pair[0]+1)
			if q, e, _ := fparse.Parse(strings.Join(without, " ")); e == api.OK && alikePrograms(p, q) {
				t.Fatalf("%q has ( ) that nothing asks for", text)
			}
		}
	}
	if left < 1000 {
		t.Errorf("only %d pairs of ( ) were left out", left)
	}
}

// The deepest trees of all: no right expression has more ( ) in ( ) than Parse takes, be they a call's or not.
func TestPrintOfTheDeepestBrackets(t *testing.T) {
	for _, over := range []func(e api.Expr, i int) api.Expr{
		func(e api.Expr, i int) api.Expr { return with(api.Abs, e) },
		func(e api.Expr, i int) api.Expr { return cast(api.DoubleType, e) },
		func(e api.Expr, i int) api.Expr { return with(api.Mul, one("2"), e) },
		func(e api.Expr, i int) api.Expr {
			return []api.Expr{with(api.Sqrt, e), with(api.Div, one("1"), e), cast(api.IntType, e)}[i%3]
		},
	} {
		e := name("x")
		for i := range api.MaxDeep - 1 {
			e = over(e, i)
		}
		for _, s := range []api.Stmt{assign("x", e), store("x", e, e), choose(e, nil, nil), loop(e)} {
			text, errno := fparse.Print(body(s))
			if errno != api.OK {
				t.Fatalf("Print(%v) has the error %d", s, errno)
			}
			checkParse(t, text, body(s))
		}
	}
}

// The limits of a text: as many bytes as there may be, and one more.
func TestPrintAtTheLimitOfBytes(t *testing.T) {
	made := func(bytes int) api.Program {
		digits := strings.Repeat("1", (bytes-len("x = 0;\n"))/2)
		more := strings.Repeat("2", bytes-len("x = ;\nx = ;\n")-len(digits))
		return body(assign("x", one(digits)), assign("x", one(more)))
	}
	if s, e := fparse.Print(made(api.MaxText)); len(s) != api.MaxText || e != api.OK {
		t.Errorf("%d bytes, %d", len(s), e)
	}
	if s, e := fparse.Print(made(api.MaxText + 1)); s != "" || e != api.ErrLimit {
		t.Errorf("%d bytes, %d; want ErrLimit", len(s), e)
	}
}

func TestPrintAtTheLimitOfTokens(t *testing.T) {
	// 4 tokens and two more for each + .
	sum := func(terms int) api.Stmt {
		e := one("1")
		for range terms - 1 {
			e = with(api.Add, e, one("1"))
		}
		return assign("x", e)
	}
	var l []api.Stmt
	for range (api.MaxTokens - 48) / 40 {
		l = append(l, sum(19))
	}
	p := body(append(l, sum(23))...)
	s, e := fparse.Print(p)
	if tokens, _, _ := flex.Scan(s); len(tokens) != api.MaxTokens || e != api.OK {
		t.Errorf("%d tokens, %d", len(tokens), e)
	}
	// A sum of one term less, in -( ): one token more.
	more := body(append(slices.Clone(l), assign("x", with(api.Neg, sum(22).Value)))...)
	if s, e := fparse.Print(more); s != "" || e != api.ErrLimit || !fparse.Right(more) {
		t.Errorf("%q, %d; want ErrLimit", s, e)
	}
}

func TestSame(t *testing.T) {
	x := name("x")
	base := func() api.Program {
		return api.Program{
			Decls: []api.Decl{{Name: "x", Type: api.IntType, Cells: 2}, {Name: "y", Type: api.FloatType}},
			Body: list(
				store("x", with(api.Add, x, one("1")), cast(api.IntType, x)),
				read("x", one("1"), with(api.Neg, one("2"))),
				choose(with(api.Lt, x, cell("x", x)), list(assign("x", x)), list(assign("y", x))),
				loop(x, assign("x", x))),
		}
	}
	if !fparse.Same(base(), base()) {
		t.Error("not the same as itself")
	}
	empty := base()
	empty.Body[0].Then, empty.Body[1].Value.Kids, empty.Body[3].Else = []api.Stmt{}, []api.Expr{}, []api.Stmt{}
	if !fparse.Same(base(), empty) || !fparse.Same(empty, base()) {
		t.Error("an empty list is not the same as none")
	}
	for what, change := range map[string]func(*api.Program){
		"a name":            func(p *api.Program) { p.Decls[0].Name = "z" },
		"a type":            func(p *api.Program) { p.Decls[1].Type = api.DoubleType },
		"cells":             func(p *api.Program) { p.Decls[0].Cells = 3 },
		"a declaration":     func(p *api.Program) { p.Decls = p.Decls[:1] },
		"the order":         func(p *api.Program) { p.Decls[0], p.Decls[1] = p.Decls[1], p.Decls[0] },
		"a statement":       func(p *api.Program) { p.Body = p.Body[:3] },
		"a statement more":  func(p *api.Program) { p.Body = append(p.Body, assign("x", x)) },
		"statements' order": func(p *api.Program) { p.Body[0], p.Body[1] = p.Body[1], p.Body[0] },
		"what is set":       func(p *api.Program) { p.Body[0].Name = "y" },
		"an index":          func(p *api.Program) { p.Body[0].Index[0].Kids[1] = one("2") },
		"no index":          func(p *api.Program) { p.Body[0].Index = nil },
		"an op":             func(p *api.Program) { p.Body[0].Index[0].Op = api.Sub },
		"a cast":            func(p *api.Program) { p.Body[0].Value.Type = api.FloatType },
		"a value":           func(p *api.Program) { p.Body[0].Value = x },
		"a low":             func(p *api.Program) { p.Body[1].Low = one("01") },
		"a high":            func(p *api.Program) { p.Body[1].High = one("2") },
		"a condition":       func(p *api.Program) { p.Body[2].Value.Kids[1].Text = "y" },
		"a deep index":      func(p *api.Program) { p.Body[2].Value.Kids[1].Kids[0].Text = "y" },
		"a then":            func(p *api.Program) { p.Body[2].Then = nil },
		"in a then":         func(p *api.Program) { p.Body[2].Then[0].Name = "z" },
		"an else":           func(p *api.Program) { p.Body[2].Else = nil },
		"in an else":        func(p *api.Program) { p.Body[2].Else[0].Value = one("1") },
		"then and else":     func(p *api.Program) { s := &p.Body[2]; s.Then, s.Else = s.Else, s.Then },
		"a while":           func(p *api.Program) { p.Body[3].Do = api.If },
		"in a while":        func(p *api.Program) { p.Body[3].Then[0].Value = one("1") },
	} {
		p := base()
		change(&p)
		if !fparse.Right(p) {
			t.Errorf("%s: not right", what)
		}
		if fparse.Same(base(), p) || fparse.Same(p, base()) || !fparse.Same(p, p) {
			t.Errorf("%s: plays no part", what)
		}
	}
	wrong := base()
	wrong.Body[0].Name = "int"
	if fparse.Same(wrong, wrong) || fparse.Same(base(), wrong) || fparse.Same(wrong, base()) {
		t.Error("a program that is not right is the same as one")
	}
}

// rooms are where the lists of a program lie, with the spare room behind them.
type rooms [][2]uintptr

func (r *rooms) add(at unsafe.Pointer, bytes uintptr) {
	if bytes > 0 {
		*r = append(*r, [2]uintptr{uintptr(at), uintptr(at) + bytes})
	}
}

func (r *rooms) exprs(l []api.Expr) {
	r.add(unsafe.Pointer(unsafe.SliceData(l)), uintptr(cap(l))*unsafe.Sizeof(api.Expr{}))
	for _, e := range l {
		r.exprs(e.Kids)
	}
}

func (r *rooms) stmts(l []api.Stmt) {
	r.add(unsafe.Pointer(unsafe.SliceData(l)), uintptr(cap(l))*unsafe.Sizeof(api.Stmt{}))
	for _, s := range l {
		r.exprs(s.Index)
		r.exprs(s.Value.Kids)
		r.exprs(s.Low.Kids)
		r.exprs(s.High.Kids)
		r.stmts(s.Then)
		r.stmts(s.Else)
	}
}

func (r *rooms) program(p api.Program) {
	r.add(unsafe.Pointer(unsafe.SliceData(p.Decls)), uintptr(cap(p.Decls))*unsafe.Sizeof(api.Decl{}))
	r.stmts(p.Body)
}

// shared tells whether two of them lie in one another.
func (r rooms) shared() bool {
	slices.SortFunc(r, func(a, b [2]uintptr) int { return int(a[0]) - int(b[0]) })
	for i := range r[1:] {
		if r[i][1] > r[i+1][0] {
			return true
		}
	}
	return false
}

func TestWhatIsParsedIsTheCallers(t *testing.T) {
	s := "int a[2]; int i; a[i + 1] = -a[0] * 2; read i in [-1, -0]; if (i < 1) { i = 1; while (!(i < 2)) { i = i - 1; } } else { i = abs(i); a[1] = 2; }"
	a, _, _ := fparse.Parse(s)
	b, _, _ := fparse.Parse(s)
	var r rooms
	r.program(a)
	r.program(b)
	if len(r) < 30 || r.shared() {
		t.Error("lists of what is parsed share room")
	}
	a.Decls[0].Name, a.Body[0].Index[0].Kids[1].Text, a.Body[2].Then[1].Value.Kids[0].Op = "z", "7", api.Neg
	c, _, _ := fparse.Parse(s)
	if !alikePrograms(b, c) {
		t.Error("what is parsed again is another program")
	}
}

// What is handed in stays as it is, with the room behind the lists.
func TestWhatIsHandedInStays(t *testing.T) {
	d := dice(31)
	for range 200 {
		p, q := d.program(3, 4), api.Program{}
		p.Decls = append(make([]api.Decl, 0, 20), p.Decls...)
		p.Body = append(make([]api.Stmt, 0, 20), p.Body...)
		text, _ := fparse.Print(p)
		q, _, _ = fparse.Parse(text)
		fparse.Right(p)
		fparse.Points(p)
		fparse.Same(p, q)
		if !alikePrograms(p, q) {
			t.Fatalf("%q was changed", text)
		}
		for _, x := range p.Decls[len(p.Decls):cap(p.Decls)] {
			if x != (api.Decl{}) {
				t.Fatal("the room behind the declarations was changed")
			}
		}
		for _, x := range p.Body[len(p.Body):cap(p.Body)] {
			if !alikeStmts(x, api.Stmt{}) {
				t.Fatal("the room behind the statements was changed")
			}
		}
	}
}
