package span

import (
	"plumbline/api"
	"plumbline/conv"
	"plumbline/soft"
)

// floats is the line of a format's finite floats.
func floats(f api.Format) line[uint64] {
	l := line[uint64]{
		least: soft.Neg(f, soft.Most(f)),
		most:  soft.Most(f),
		past:  api.TrapInf,
		plain: func(x uint64) uint64 { return conv.Plain(f, x) },
		isOne: func(x uint64) bool { return soft.Finite(f, x) && conv.Plain(f, x) == x },
		prev:  func(x uint64) uint64 { return conv.Prev(f, x) },
		next:  func(x uint64) uint64 { return conv.Next(f, x) },
		byOne: func(op api.Op) func(uint64) uint64 { return floatByOne(f, op) },
		byTwo: func(op api.Op) func(x, y uint64) uint64 { return floatByTwo(f, op) },
	}
	l.order = func(x, y uint64) int {
		n, _ := soft.Compare(f, x, y)
		return n
	}
	l.byZero = func(a stretch[uint64]) api.Traps {
		var traps api.Traps
		if l.has(a, 0) {
			traps = trapsOf(api.TrapNan)
		}
		if a.lo != 0 || a.hi != 0 {
			traps |= trapsOf(api.TrapInf)
		}
		return traps
	}
	return l
}

// floatByOne is how one is reckoned with: none, if op says nothing of a float.
func floatByOne(f api.Format, op api.Op) func(x uint64) uint64 {
	switch op {
	case api.Neg:
		return func(x uint64) uint64 { return soft.Neg(f, x) }
	case api.Abs:
		return func(x uint64) uint64 { return soft.Abs(f, x) }
	case api.Sqrt:
		return func(x uint64) uint64 { return soft.Sqrt(f, api.Near, x) }
	}
	return nil
}

// floatByTwo is how two are reckoned with.
func floatByTwo(f api.Format, op api.Op) func(x, y uint64) uint64 {
	var by func(f api.Format, m api.Mode, a, b uint64) uint64
	switch op {
	case api.Add:
		by = soft.Add
	case api.Sub:
		by = soft.Sub
	case api.Mul:
		by = soft.Mul
	case api.Div:
		by = soft.Div
	default:
		return nil
	}
	return func(x, y uint64) uint64 { return by(f, api.Near, x, y) }
}
