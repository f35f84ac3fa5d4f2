package fcheck_test

import (
	"slices"
	"testing"

	"plumbline/api"
	"plumbline/fcheck"
)

func TestNilUnit(t *testing.T) {
	var u *fcheck.Unit
	if p := u.Program(); p.Decls != nil || p.Body != nil {
		t.Error("Program")
	}
	if n, ok := u.Place("i"); n != 0 || ok {
		t.Error("Place")
	}
	for _, e := range []api.Expr{{}, one("1"), name("i")} {
		if k, e := u.Type(e); k != api.NoType || e != api.ErrNil {
			t.Error("Type", k, e)
		}
	}
	if l := u.Vars(); len(l) != 0 {
		t.Error("Vars")
	}
	if n := u.Points(); n != 0 {
		t.Error("Points")
	}
	if s, ok := u.At(0); ok || !alikeStmts(s, api.Stmt{}) {
		t.Error("At")
	}
	if l := u.Reads(); len(l) != 0 {
		t.Error("Reads")
	}
}

func TestUnitOfNothing(t *testing.T) {
	for _, p := range []api.Program{{}, {Decls: []api.Decl{}, Body: []api.Stmt{}}} {
		u, e, at := fcheck.Check(p)
		if u == nil || e != api.OK || at != 0 {
			t.Fatal(e, at)
		}
		if _, ok := u.At(0); ok || u.Points() != 0 || len(u.Vars()) != 0 || len(u.Reads()) != 0 || !alikePrograms(u.Program(), api.Program{}) {
			t.Error("something of nothing")
		}
		checkType(t, u, one("1"), api.IntType, api.OK)
		checkType(t, u, name("i"), api.NoType, api.ErrName)
	}
}

func checkUnit(t *testing.T, u *fcheck.Unit, p api.Program) {
	t.Helper()
	if !alikePrograms(u.Program(), p) {
		t.Errorf("Program is %v; want %v", u.Program(), p)
	}
	if !slices.Equal(u.Vars(), p.Decls) {
		t.Errorf("Vars is %v; want %v", u.Vars(), p.Decls)
	}
	for i, d := range p.Decls {
		if n, ok := u.Place(d.Name); n != i || !ok {
			t.Errorf("Place(%s) is %d, %v; want %d", d.Name, n, ok, i)
		}
	}
	for _, text := range []string{"", "zz", "int", "I", "i ", "1"} {
		if n, ok := u.Place(text); n != 0 || ok {
			t.Errorf("Place(%q) is %d, %v", text, n, ok)
		}
	}
	all := flat(p.Body)
	if u.Points() != len(all) {
		t.Errorf("Points is %d; want %d", u.Points(), len(all))
	}
	var reads []api.Point
	for i, want := range all {
		s, ok := u.At(api.Point(i))
		if !ok || !alikeStmts(s, want) || len(s.Then) != 0 || len(s.Else) != 0 {
			t.Errorf("At(%d) is %v; want %v", i, s, want)
		}
		if want.Do == api.Read {
			reads = append(reads, api.Point(i))
		}
	}
	if !slices.Equal(u.Reads(), reads) {
		t.Errorf("Reads is %v; want %v", u.Reads(), reads)
	}
	for _, at := range []api.Point{-1, -1 << 63, api.Point(len(all)), api.Point(len(all)) + 1, 1<<63 - 1} {
		if s, ok := u.At(at); ok || !alikeStmts(s, api.Stmt{}) {
			t.Errorf("At(%d) is %v, %v", at, s, ok)
		}
	}
}

func TestUnits(t *testing.T) {
	d := dice(12345)
	for range 300 {
		p := writer{&d, 0}.program()
		u, e, _ := fcheck.Check(p)
		if e != api.OK {
			t.Fatal(e)
		}
		checkUnit(t, u, p)
	}
}

// spoil writes over all that a program's lists hold, with the spare room behind them.
func spoil(p api.Program) {
	clear(p.Decls[:cap(p.Decls)])
	spoilBlock(p.Body)
}

func spoilBlock(l []api.Stmt) {
	for _, s := range l {
		spoilHead(s)
		spoilBlock(s.Then)
		spoilBlock(s.Else)
	}
	clear(l[:cap(l)])
}

func spoilHead(s api.Stmt) {
	for _, l := range [][]api.Expr{s.Index, s.Value.Kids, s.Low.Kids, s.High.Kids} {
		spoilExprs(l)
	}
}

func spoilExprs(l []api.Expr) {
	for _, e := range l {
		spoilExprs(e.Kids)
	}
	clear(l[:cap(l)])
}

// What is told is the caller's, and what is handed in is not kept.
func TestWhatIsToldIsTheCallers(t *testing.T) {
	for round := range 100 {
		d := dice(round + 1)
		p := writer{&d, 0}.program()
		d = dice(round + 1)
		want := writer{&d, 0}.program()
		u, e, _ := fcheck.Check(p)
		if e != api.OK || !alikePrograms(p, want) {
			t.Fatal("a program was changed")
		}
		spoil(p)
		checkUnit(t, u, want)
		spoil(u.Program())
		checkUnit(t, u, want)
		vars, reads := u.Vars(), u.Reads()
		clear(vars[:cap(vars)])
		for i := range reads {
			reads[i] = 99
		}
		for i := range u.Points() {
			s, _ := u.At(api.Point(i))
			spoilHead(s)
			spoilExprs(s.Index[:0])
		}
		checkUnit(t, u, want)
	}
}

// Two lists that are told never lie in one room: writing over the one leaves the other.
func TestWhatIsToldLiesApart(t *testing.T) {
	u, e := fcheck.Read(declarations + "i = ai[i + 1] * -2; while (i < 3) { ai[ai[0]] = abs(i); read d in [-1.0, -0.5]; }")
	if e != api.OK {
		t.Fatal(e)
	}
	a, b := u.Program(), u.Program()
	spoil(a)
	if !alikePrograms(b, u.Program()) {
		t.Error("two programs lie in one room")
	}
	c, d := u.Vars(), u.Vars()
	clear(c)
	if !slices.Equal(d, u.Vars()) || d[0].Name != "i" {
		t.Error("two lists of declarations lie in one room")
	}
	x, _ := u.At(2)
	y, _ := u.At(2)
	spoilHead(x)
	if z, _ := u.At(2); !alikeStmts(y, z) {
		t.Error("two statements lie in one room")
	}
	// Lists of one answer: what is appended to the one leaves the others.
	p := u.Program()
	_ = append(p.Body[0].Value.Kids, one("9"))
	_ = append(p.Body[0].Value.Kids[0].Kids, one("9"))
	_ = append(p.Body[1].Then, p.Body[0])
	_ = append(p.Decls, api.Decl{})
	_ = append(p.Body, api.Stmt{})
	if !alikePrograms(p, u.Program()) {
		t.Error("two lists of one program lie in one room")
	}
}

func TestOneListAtSeveralPlaces(t *testing.T) {
	kids := []api.Expr{name("i"), one("1")}
	then := []api.Stmt{assign("i", api.Expr{Op: api.Add, Kids: kids})}
	p := api.Program{Decls: vars(), Body: []api.Stmt{choose(api.Expr{Op: api.Lt, Kids: kids}, then, then)}}
	u, e, _ := fcheck.Check(p)
	if e != api.OK {
		t.Fatal(e)
	}
	checkUnit(t, u, p)
	q := u.Program()
	q.Body[0].Then[0].Name, q.Body[0].Value.Kids[0].Text = "f", "f"
	if s := q.Body[0].Else[0]; s.Name != "i" || s.Value.Kids[0].Text != "i" {
		t.Error("two lists of one program lie in one room")
	}
}
