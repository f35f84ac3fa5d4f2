package fparse_test

import (
	"strings"
	"testing"

	"plumbline/api"
	"plumbline/fparse"
)

func checkRight(t *testing.T, what string, p api.Program) {
	t.Helper()
	if !fparse.Right(p) {
		t.Errorf("%s: not right", what)
	}
	if n := fparse.Points(p); n != count(p.Body) {
		t.Errorf("%s: %d points; want %d", what, n, count(p.Body))
	}
	if !fparse.Same(p, p) {
		t.Errorf("%s: not the same as itself", what)
	}
}

func checkWrong(t *testing.T, what string, p api.Program) {
	t.Helper()
	if fparse.Right(p) {
		t.Errorf("%s: right", what)
	}
	if n := fparse.Points(p); n != 0 {
		t.Errorf("%s: %d points; want 0", what, n)
	}
	if fparse.Same(p, p) || fparse.Same(p, api.Program{}) || fparse.Same(api.Program{}, p) {
		t.Errorf("%s: the same as something", what)
	}
	if s, e := fparse.Print(p); s != "" || e != api.ErrForm {
		t.Errorf("%s: Print is %.40q, %d; want ErrForm", what, s, e)
	}
}

func declared(l ...api.Decl) api.Program { return api.Program{Decls: l} }

func TestRightDeclarations(t *testing.T) {
	checkRight(t, "nothing", api.Program{})
	checkRight(t, "empty lists", api.Program{Decls: []api.Decl{}, Body: []api.Stmt{}})
	for _, kind := range []api.Type{api.IntType, api.FloatType, api.DoubleType} {
		for _, cells := range []int{0, 1, 2, 63, 64} {
			checkRight(t, "a declaration", declared(api.Decl{Name: "x", Type: kind, Cells: cells}))
		}
		for _, cells := range []int{-1, -64, 65, 1 << 40, -1 << 63, 1<<63 - 1} {
			checkWrong(t, "cells", declared(api.Decl{Name: "x", Type: kind, Cells: cells}))
		}
	}
	checkRight(t, "one name twice", declared(api.Decl{Name: "x", Type: api.IntType}, api.Decl{Name: "x", Type: api.IntType}))
	for _, kind := range []api.Type{api.NoType, -1, 4, 1 << 40} {
		checkWrong(t, "no type", declared(api.Decl{Name: "x", Type: kind}))
		checkWrong(t, "no type, later", declared(api.Decl{Name: "x", Type: api.IntType}, api.Decl{Name: "x", Type: kind}))
	}
	for _, n := range noNames() {
		checkWrong(t, "a declaration of "+n, declared(api.Decl{Name: n, Type: api.IntType}))
	}
	many := make([]api.Decl, api.MaxVars)
	for i := range many {
		many[i] = api.Decl{Name: "x", Type: api.IntType}
	}
	checkRight(t, "as many declarations as may be", declared(many...))
	checkWrong(t, "one declaration more", declared(append(many, many[0])...))
}

func noNames() []string {
	return []string{"", "int", "while", "sqrt", "1", "1x", "_x", "x y", " x", "x ", "x;", "-", "é", "x\x00", "abcdefghijklmnopq", strings.Repeat("x", 100)}
}

func noNumbers() []string {
	return []string{"", "x", "-1", "+1", "1.", ".5", ".", "1.5.5", "1 2", " 1", "1 ", "1\n", "1;", "1e5", "0x1", "1_0", "1.5f", "é", "(1)", "1,0", "int", "\xff1", strings.Repeat("1", api.MaxText+1)}
}

func TestRightExpressions(t *testing.T) {
	x := name("x")
	for _, e := range []api.Expr{
		one("0"), one("1.5"), one("007"), one("00.00"), one(strings.Repeat("9", 100)), one(strings.Repeat("1", 50) + "." + strings.Repeat("2", 50)),
		x, name("abcdefghijklmnop"), cell("x", x), with(api.Neg, x), with(api.Not, x), with(api.Abs, x), with(api.Sqrt, x),
		cast(api.IntType, x), cast(api.FloatType, x), cast(api.DoubleType, x),
		{Op: api.Var, Text: "x", Kids: []api.Expr{}},
	} {
		checkValueRight(t, e, checkRight)
	}
	for _, o := range between {
		checkValueRight(t, with(o.op, x, x), checkRight)
		checkValueRight(t, with(o.op), checkWrong)
		checkValueRight(t, with(o.op, x), checkWrong)
		checkValueRight(t, with(o.op, x, x, x), checkWrong)
		checkValueRight(t, with(o.op, x, api.Expr{}), checkWrong)
		checkValueRight(t, with(o.op, api.Expr{}, x), checkWrong)
		checkValueRight(t, api.Expr{Op: o.op, Text: o.sign, Kids: []api.Expr{x, x}}, checkWrong)
		checkValueRight(t, api.Expr{Op: o.op, Type: api.IntType, Kids: []api.Expr{x, x}}, checkWrong)
	}
	for _, op := range []api.Op{api.Neg, api.Not, api.Abs, api.Sqrt} {
		checkValueRight(t, with(op), checkWrong)
		checkValueRight(t, with(op, x, x), checkWrong)
		checkValueRight(t, with(op, api.Expr{}), checkWrong)
		checkValueRight(t, api.Expr{Op: op, Text: "x", Kids: []api.Expr{x}}, checkWrong)
		checkValueRight(t, api.Expr{Op: op, Type: api.IntType, Kids: []api.Expr{x}}, checkWrong)
	}
}

// checkValueRight checks e at all places where any expression may stand.
func checkValueRight(t *testing.T, e api.Expr, check func(*testing.T, string, api.Program)) {
	t.Helper()
	x := name("x")
	for what, s := range map[string]api.Stmt{
		"a value": assign("x", e), "an index": store("x", e, x), "the value of a cell": store("x", x, e),
		"an if": choose(e, nil, nil), "a while": loop(e),
		"in an if": choose(x, list(assign("x", e)), nil), "in an else": choose(x, nil, list(assign("x", e))), "in a while": loop(x, assign("x", e)),
		"a kid": assign("x", with(api.Neg, e)), "a second kid": assign("x", with(api.Add, x, e)), "a kid of a cell": assign("x", cell("x", e)), "a kid of a cast": assign("x", cast(api.IntType, e)),
	} {
		check(t, what, body(s))
		check(t, what+", later", body(assign("x", x), s))
	}
}

func TestWrongExpressions(t *testing.T) {
	x := name("x")
	wrong := []api.Expr{
		{}, {Text: "x"}, {Kids: []api.Expr{x}}, {Type: api.IntType}, {Op: -1}, {Op: api.Not + 1}, {Op: api.Not + 1, Kids: []api.Expr{x}}, {Op: 1 << 40, Kids: []api.Expr{x, x}}, {Op: -1, Kids: []api.Expr{x, x}},
		{Op: api.Const, Text: "1", Type: api.IntType}, {Op: api.Const, Text: "1", Kids: []api.Expr{x}},
		{Op: api.Var, Text: "x", Type: api.IntType}, {Op: api.Var, Text: "x", Kids: []api.Expr{x}},
		{Op: api.Cell, Text: "x"}, {Op: api.Cell, Text: "x", Type: api.IntType, Kids: []api.Expr{x}}, {Op: api.Cell, Text: "x", Kids: []api.Expr{x, x}}, {Op: api.Cell, Kids: []api.Expr{x}},
		{Op: api.Cast, Type: api.IntType}, {Op: api.Cast, Kids: []api.Expr{x}}, {Op: api.Cast, Type: api.IntType, Kids: []api.Expr{x, x}}, {Op: api.Cast, Type: api.IntType, Text: "int", Kids: []api.Expr{x}},
		{Op: api.Cast, Type: 4, Kids: []api.Expr{x}}, {Op: api.Cast, Type: -1, Kids: []api.Expr{x}},
	}
	for _, n := range noNames() {
		wrong = append(wrong, name(n), cell(n, x))
	}
	for _, n := range noNumbers() {
		wrong = append(wrong, one(n))
	}
	for _, e := range wrong {
		checkValueRight(t, e, checkWrong)
	}
}

// Each kind of statement with each part: those that it has, and others.
func TestRightStatements(t *testing.T) {
	x, low, high := name("x"), with(api.Neg, one("1")), one("2.0")
	parts := []struct {
		what string
		put  func(*api.Stmt)
	}{
		{"Name", func(s *api.Stmt) { s.Name = "x" }},
		{"Index", func(s *api.Stmt) { s.Index = []api.Expr{x} }},
		{"Value", func(s *api.Stmt) { s.Value = x }},
		{"Low", func(s *api.Stmt) { s.Low = low }},
		{"High", func(s *api.Stmt) { s.High = high }},
		{"Then", func(s *api.Stmt) { s.Then = list(assign("x", x)) }},
		{"Else", func(s *api.Stmt) { s.Else = list(assign("x", x)) }},
	}
	// The parts that a kind must have, and those that it may have, by their letters.
	kinds := map[api.Do][2]string{
		api.Assign: {"Name Value", "Index"}, api.Read: {"Name Low High", ""}, api.If: {"Value", "Then Else"}, api.While: {"Value", "Then"},
	}
	for do := api.Do(-1); do <= api.While+1; do++ {
		for set := range 1 << len(parts) {
			s := api.Stmt{Do: do}
			has, right := "", do > api.NoDo && do <= api.While
			for i, part := range parts {
				must, may := strings.Contains(kinds[do][0], part.what), strings.Contains(kinds[do][1], part.what)
				if set>>i&1 == 1 {
					part.put(&s)
					has += " " + part.what
					right = right && (must || may)
				} else {
					right = right && !must
				}
			}
			check := checkWrong
			if right {
				check = checkRight
			}
			check(t, [...]string{"none", "NoDo", "Assign", "Read", "If", "While", "none"}[do+1]+" with"+has, body(s))
		}
	}
}

func TestWrongStatements(t *testing.T) {
	x := name("x")
	set := assign("x", x)
	empty := []api.Stmt{}
	checkRight(t, "empty lists", body(
		api.Stmt{Do: api.Assign, Name: "x", Index: []api.Expr{}, Value: x, Then: empty, Else: empty},
		api.Stmt{Do: api.Read, Name: "x", Index: []api.Expr{}, Low: one("1"), High: one("1"), Then: empty, Else: empty},
		api.Stmt{Do: api.If, Value: x, Then: empty, Else: empty},
		api.Stmt{Do: api.While, Value: x, Then: empty, Else: empty}))
	for what, s := range map[string]api.Stmt{
		"two indexes":             {Do: api.Assign, Name: "x", Index: []api.Expr{x, x}, Value: x},
		"an index that is none":   {Do: api.Assign, Name: "x", Index: []api.Expr{{}}, Value: x},
		"an else of a while":      {Do: api.While, Value: x, Then: list(set), Else: list(set)},
		"a text of no value":      {Do: api.Read, Name: "x", Value: api.Expr{Text: "x"}, Low: one("1"), High: one("1")},
		"a type of no low":        {Do: api.Assign, Name: "x", Value: x, Low: api.Expr{Type: api.IntType}},
		"an op of no low":         {Do: api.While, Value: x, Low: api.Expr{Op: api.Var}},
		"a kid of no high":        {Do: api.If, Value: x, High: api.Expr{Kids: []api.Expr{x}}},
		"a wrong one in a then":   choose(x, list(set, api.Stmt{}), nil),
		"a wrong one in an else":  choose(x, nil, list(set, api.Stmt{})),
		"a wrong one in a while":  loop(x, set, api.Stmt{}),
		"an else of a while in a": loop(x, api.Stmt{Do: api.While, Value: x, Else: list(set)}),
	} {
		checkWrong(t, what, body(s))
		checkWrong(t, what+", later", body(set, s))
	}
	for _, n := range noNames() {
		checkWrong(t, "set "+n, body(assign(n, x)))
		checkWrong(t, "store "+n, body(store(n, x, x)))
		checkWrong(t, "read "+n, body(read(n, one("1"), one("1"))))
	}
}

func TestBounds(t *testing.T) {
	for _, e := range []api.Expr{one("0"), one("1.5"), with(api.Neg, one("0")), with(api.Neg, one("1.5")), one("99999999999999999999")} {
		checkRight(t, "a bound", body(read("x", e, one("1"))))
		checkRight(t, "a bound", body(read("x", one("1"), e)))
	}
	for _, e := range []api.Expr{
		{}, name("x"), cell("x", one("1")), with(api.Neg, name("x")), with(api.Neg, with(api.Neg, one("1"))), with(api.Not, one("1")), with(api.Abs, one("1")), with(api.Sqrt, one("1.0")),
		cast(api.IntType, one("1")), with(api.Add, one("1"), one("1")), with(api.Neg), with(api.Neg, one("1"), one("1")), with(api.Neg, api.Expr{}), one("-1"), one(""), with(api.Neg, one("x")),
	} {
		checkWrong(t, "a low that is none", body(read("x", e, one("1"))))
		checkWrong(t, "a high that is none", body(read("x", one("1"), e)))
	}
}

// nested is an expression that is n deep.
func nested(n int, over func(api.Expr) api.Expr) api.Expr {
	e := name("x")
	for range n - 1 {
		e = over(e)
	}
	return e
}

func TestDepthOfExpressions(t *testing.T) {
	x := name("x")
	for what, over := range map[string]func(api.Expr) api.Expr{
		"signs":     func(e api.Expr) api.Expr { return with(api.Neg, e) },
		"at left":   func(e api.Expr) api.Expr { return with(api.Add, e, x) },
		"at right":  func(e api.Expr) api.Expr { return with(api.Or, x, e) },
		"cells":     func(e api.Expr) api.Expr { return cell("x", e) },
		"calls":     func(e api.Expr) api.Expr { return with(api.Sqrt, e) },
		"casts":     func(e api.Expr) api.Expr { return cast(api.IntType, e) },
		"comparing": func(e api.Expr) api.Expr { return with(api.Lt, x, e) },
	} {
		for _, s := range []func(api.Expr) api.Stmt{
			func(e api.Expr) api.Stmt { return assign("x", e) },
			func(e api.Expr) api.Stmt { return store("x", e, x) },
			func(e api.Expr) api.Stmt { return choose(e, nil, nil) },
			func(e api.Expr) api.Stmt { return loop(x, loop(e)) },
		} {
			checkRight(t, what, body(s(nested(api.MaxDeep, over))))
			checkWrong(t, what, body(s(nested(api.MaxDeep+1, over))))
		}
	}
}

func TestDepthOfBlocks(t *testing.T) {
	x := name("x")
	for what, over := range map[string]func(api.Stmt) api.Stmt{
		"then":  func(s api.Stmt) api.Stmt { return choose(x, list(s), nil) },
		"else":  func(s api.Stmt) api.Stmt { return choose(x, nil, list(s)) },
		"both":  func(s api.Stmt) api.Stmt { return choose(x, list(assign("x", x)), list(assign("x", x), s)) },
		"while": func(s api.Stmt) api.Stmt { return loop(x, s) },
	} {
		s := assign("x", x)
		for range api.MaxDeep - 1 {
			s = over(s)
		}
		checkRight(t, what, body(s))
		checkWrong(t, what, body(over(s)))
		checkWrong(t, what, body(assign("x", x), over(s)))
	}
	// An empty block is one, too.
	s := loop(x)
	for range api.MaxDeep - 2 {
		s = loop(x, s)
	}
	checkRight(t, "an empty block", body(s))
	checkWrong(t, "an empty block", body(loop(x, s)))
}

func TestCountOfPoints(t *testing.T) {
	x := name("x")
	many := make([]api.Stmt, api.MaxPoints)
	for i := range many {
		many[i] = assign("x", x)
	}
	checkRight(t, "as many as may be", body(many...))
	checkWrong(t, "one more", body(append(many, many[0])...))
	checkRight(t, "within", body(choose(x, many[:100], many[:100]), loop(x, many[:54]...)))
	checkWrong(t, "within", body(choose(x, many[:100], many[:100]), loop(x, many[:55]...)))
	checkWrong(t, "within an else", body(choose(x, nil, many)))
}

func TestCountOfExpressions(t *testing.T) {
	x := name("x")
	eight := nested(8, func(e api.Expr) api.Expr { return with(api.Neg, e) })
	full := make([]api.Stmt, api.MaxTokens/8)
	for i := range full {
		full[i] = assign("x", eight)
	}
	last := len(full) - 1
	check := func(what string, s api.Stmt, check func(*testing.T, string, api.Program)) {
		t.Helper()
		check(t, what, body(append(full[:last:last], s)...))
	}
	right := func(t *testing.T, what string, p api.Program) {
		t.Helper()
		if !fparse.Right(p) || fparse.Points(p) != count(p.Body) || !fparse.Same(p, p) {
			t.Errorf("%s: not right", what)
		}
		if s, e := fparse.Print(p); s != "" || e != api.ErrLimit {
			t.Errorf("%s: Print is %.40q, %d; want ErrLimit", what, s, e)
		}
	}
	check("values", full[last], right)
	check("values", assign("x", with(api.Neg, eight)), checkWrong)
	check("an index", store("x", x, eight.Kids[0]), right)
	check("an index", store("x", x, eight), checkWrong)
	check("a condition", choose(eight, nil, nil), right)
	check("a condition", loop(with(api.Not, eight)), checkWrong)
	four := with(api.Neg, with(api.Neg, with(api.Neg, x)))
	check("two sides", assign("x", with(api.Add, four, eight.Kids[0].Kids[0].Kids[0].Kids[0].Kids[0])), right)
	check("two sides", assign("x", with(api.Add, four, four)), checkWrong)
	full[0] = read("x", with(api.Neg, one("1")), one("1"))
	check("bounds", full[last], right)
	full[1] = assign("x", nested(13, func(e api.Expr) api.Expr { return with(api.Neg, e) }))
	check("bounds", full[last], right)
	check("bounds", assign("x", with(api.Neg, eight)), checkWrong)
}

// Trees that have themselves inside, or one thing at many places, have no end or a far one.
func TestTreesWithoutEnd(t *testing.T) {
	round := make([]api.Expr, 1)
	round[0] = with(api.Neg, api.Expr{})
	round[0].Kids = round
	checkWrong(t, "an expression in itself", body(assign("x", round[0])))
	both := make([]api.Expr, 2)
	both[0] = api.Expr{Op: api.Add, Kids: both}
	both[1] = api.Expr{Op: api.Add, Kids: both}
	checkWrong(t, "an expression twice in itself", body(assign("x", both[0])))

	wide := name("x")
	for range api.MaxDeep - 1 {
		wide = api.Expr{Op: api.Add, Kids: []api.Expr{wide, wide}}
	}
	checkWrong(t, "a tree of 2^24 leaves", body(assign("x", wide)))

	block := make([]api.Stmt, 2)
	block[0] = api.Stmt{Do: api.If, Value: name("x"), Then: block, Else: block}
	block[1] = block[0]
	checkWrong(t, "a block in itself", body(block...))

	// One list at several places is a right tree, if it is small.
	kids := []api.Expr{name("x"), one("1")}
	then := list(assign("x", api.Expr{Op: api.Add, Kids: kids}))
	checkRight(t, "one list at several places", body(choose(api.Expr{Op: api.Lt, Kids: kids}, then, then)))
}

func TestProgramsByDiceAreRight(t *testing.T) {
	d := dice(5)
	for range 500 {
		checkRight(t, "by dice", d.program(4, 5))
	}
}
