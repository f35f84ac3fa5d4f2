package fcheck_test

import (
	"strings"
	"testing"

	"plumbline/api"
	"plumbline/conv"
	"plumbline/fcheck"
	"plumbline/fparse"
)

// Which error is told is worked out here once more: all errors of a statement are listed, and the first one is taken.

// noType is of what has none.
const noType api.Type = -1

// list is what is wrong with a statement, in the order in which it is told.
type list struct {
	decls  []api.Decl
	errors []api.Errno
}

func (l *list) add(e api.Errno) {
	if e != api.OK {
		l.errors = append(l.errors, e)
	}
}

func (l *list) find(text string) (api.Decl, bool) {
	for _, d := range l.decls {
		if d.Name == text {
			return d, true
		}
	}
	l.add(api.ErrName)
	return api.Decl{Type: noType}, false
}

func (l *list) used(text string, indexes int) api.Type {
	d, known := l.find(text)
	if known && (d.Cells == 0) != (indexes == 0) {
		l.add(api.ErrType)
		return noType
	}
	return d.Type
}

func (l *list) number(text string) api.Type {
	if before, after, real := strings.Cut(text, "."); real {
		if len(before)+len(after) > api.MaxDigits {
			l.add(api.ErrDigits)
		}
		return api.DoubleType
	}
	_, e := conv.Int(text)
	l.add(e)
	return api.IntType
}

// fits is t, if it is none of what may not be.
func (l *list) fits(t api.Type, fits bool) api.Type {
	if !fits {
		l.add(api.ErrType)
		return noType
	}
	return t
}

func (l *list) expr(e api.Expr) api.Type {
	kids := []api.Type{noType, noType}
	for i, k := range e.Kids {
		kids[i] = l.expr(k)
	}
	a, b := kids[0], kids[1]
	switch e.Op {
	case api.Const:
		return l.number(e.Text)
	case api.Var:
		return l.used(e.Text, 0)
	case api.Cell:
		return l.fits(l.used(e.Text, 1), a == api.IntType)
	case api.Neg, api.Abs:
		return l.fits(a, a > 0)
	case api.Sqrt:
		return l.fits(a, a == api.FloatType || a == api.DoubleType)
	case api.Cast:
		return l.fits(e.Type, a > 0)
	case api.Add, api.Sub, api.Mul, api.Div:
		return l.fits(a, a == b && a > 0)
	case api.And, api.Or:
		return l.fits(api.NoType, a == api.NoType && b == api.NoType)
	case api.Not:
		return l.fits(api.NoType, a == api.NoType)
	}
	return l.fits(api.NoType, a == b && a > 0)
}

func (l *list) bound(t api.Type, e api.Expr) {
	text := e.Text
	if e.Op == api.Neg {
		text = e.Kids[0].Text
	}
	if strings.Contains(text, ".") == (t == api.IntType) {
		l.add(api.ErrType)
	}
	l.number(text)
}

// value is a bound as a number that the machine has; exact for those that the writer writes, as far as their order goes.
func value(e api.Expr) float64 {
	if e.Op == api.Neg {
		return -value(e.Kids[0])
	}
	n, part := 0.0, 1.0
	before, after, _ := strings.Cut(e.Text, ".")
	for _, c := range before {
		n = 10*n + float64(c-'0')
	}
	for _, c := range after {
		part /= 10
		n += part * float64(c-'0')
	}
	return n
}

func firstError(decls []api.Decl, s api.Stmt) api.Errno {
	l := &list{decls: decls}
	switch s.Do {
	case api.Assign:
		t := l.used(s.Name, len(s.Index))
		for _, e := range s.Index {
			l.fits(api.IntType, l.expr(e) == api.IntType)
		}
		l.fits(t, l.expr(s.Value) == t)
	case api.Read:
		t := l.used(s.Name, 0)
		l.bound(t, s.Low)
		l.bound(t, s.High)
		if value(s.Low) > value(s.High) {
			l.add(api.ErrOrder)
		}
	default:
		l.fits(api.NoType, l.expr(s.Value) == api.NoType)
	}
	if len(l.errors) > 0 {
		return l.errors[0]
	}
	return api.OK
}

func TestManyPrograms(t *testing.T) {
	told := map[api.Errno]int{}
	d := dice(88172645463325252)
	for round := range 12000 {
		p := writer{&d, [...]int{0, 200, 60, 20, 5}[round%5]}.program()
		want, at := api.OK, api.Point(0)
		for i, s := range flat(p.Body) {
			if want = firstError(p.Decls, s); want != api.OK {
				at = api.Point(i)
				break
			}
		}
		told[want]++
		if u, e, point := fcheck.Check(p); e != want || point != at || (u == nil) != (want != api.OK) {
			text, _ := fparse.Print(p)
			t.Fatalf("Check(%s) = %v, %d, %d; want %d, %d", text, u != nil, e, point, want, at)
		}
		if round%5 == 0 && want != api.OK {
			t.Fatalf("%v has the error %d", p, want)
		}
	}
	for _, e := range []api.Errno{api.OK, api.ErrName, api.ErrType, api.ErrDigits, api.ErrRange, api.ErrOrder} {
		if told[e] < 50 {
			t.Errorf("the error %d is told %d times only", e, told[e])
		}
	}
}

func parts(e api.Expr) []api.Expr {
	if e.Op == api.NoOp {
		return nil
	}
	all := []api.Expr{e}
	for _, k := range e.Kids {
		all = append(all, parts(k)...)
	}
	return all
}

// P6.3: what is checked has a type everywhere.
func TestTypesEverywhere(t *testing.T) {
	d := dice(4)
	for range 300 {
		p := writer{&d, 0}.program()
		u, e, _ := fcheck.Check(p)
		if e != api.OK {
			t.Fatal(e)
		}
		for _, s := range flat(p.Body) {
			l := &list{decls: p.Decls}
			for _, whole := range append(s.Index, s.Value) {
				for _, part := range parts(whole) {
					checkType(t, u, part, l.expr(part), api.OK)
				}
			}
		}
	}
}

// P6.4: declarations that nothing uses play no part.
func TestUnusedDeclarations(t *testing.T) {
	d := dice(6)
	for range 300 {
		p := writer{&d, 40}.program()
		_, e, at := fcheck.Check(p)
		more := p
		more.Decls = append([]api.Decl{{Name: "u1", Type: api.IntType}, {Name: "u2", Type: api.FloatType, Cells: 3}}, p.Decls...)
		more.Decls = append(more.Decls, api.Decl{Name: "I", Type: api.DoubleType})
		if _, e2, at2 := fcheck.Check(more); e2 != e || at2 != at {
			t.Fatalf("%d, %d; with more declarations %d, %d", e, at, e2, at2)
		}
	}
	checkText(t, "int i; i = 1;", api.OK, 0)
	checkText(t, "int j; int i; float k[2]; i = 1;", api.OK, 0)
}

// A text says what its program says.
func TestReadOfPrintedPrograms(t *testing.T) {
	d := dice(8)
	for range 300 {
		p := writer{&d, 40}.program()
		text, e := fparse.Print(p)
		if e != api.OK {
			continue
		}
		_, want, _ := fcheck.Check(p)
		u, e := fcheck.Read(text)
		if e != want || (u == nil) != (e != api.OK) {
			t.Fatalf("Read(%q) = %d; want %d", text, e, want)
		}
		if u != nil && !alikePrograms(u.Program(), p) {
			t.Fatalf("Read(%q) is another program", text)
		}
	}
}
