package fcheck

import "plumbline/api"

// checker tells what is wrong with statements and expressions, by the names that it has inside.
type checker struct {
	names
}

// statement checks one without what stands in it: that has points of its own.
func (c checker) statement(s api.Stmt) api.Errno {
	switch s.Do {
	case api.Assign:
		return c.assign(s)
	case api.Read:
		return c.read(s)
	}
	return c.mustBe(s.Value, truth)
}

func (c checker) assign(s api.Stmt) api.Errno {
	t, e := c.typeUsed(s.Name, len(s.Index) > 0)
	if e != api.OK {
		return e
	}
	for _, index := range s.Index {
		if e := c.mustBe(index, api.IntType); e != api.OK {
			return e
		}
	}
	return c.mustBe(s.Value, t)
}

func (c checker) read(s api.Stmt) api.Errno {
	t, e := c.typeUsed(s.Name, false)
	if e != api.OK {
		return e
	}
	low, e := boundOf(t, s.Low)
	if e != api.OK {
		return e
	}
	high, e := boundOf(t, s.High)
	if e != api.OK {
		return e
	}
	if low > high {
		return api.ErrOrder
	}
	return api.OK
}

func (c checker) mustBe(e api.Expr, t api.Type) api.Errno {
	has, errno := c.typeOf(e)
	if errno == api.OK && has != t {
		return api.ErrType
	}
	return errno
}

// typeOf is the type of an expression, or the first error in it.
func (c checker) typeOf(e api.Expr) (api.Type, api.Errno) {
	var open []api.Type // of expressions that what they stand in is still to come for
	for part := range partsOf(e) {
		rest := len(open) - len(part.Kids)
		t, errno := c.typeOver(part, open[rest:])
		if errno != api.OK {
			return api.NoType, errno
		}
		open = append(open[:rest], t)
	}
	return open[0], api.OK
}

// typeOver is the type of an expression whose Kids have these types.
func (c checker) typeOver(e api.Expr, kids []api.Type) (api.Type, api.Errno) {
	switch e.Op {
	case api.Const:
		t := numberType(e.Text)
		_, errno := numberOf(t, e.Text)
		return t, errno
	case api.Var:
		return c.typeUsed(e.Text, false)
	case api.Cell:
		t, errno := c.typeUsed(e.Text, true)
		if errno == api.OK && kids[0] != api.IntType {
			return api.NoType, api.ErrType
		}
		return t, errno
	}
	return reckoned(e, kids)
}
