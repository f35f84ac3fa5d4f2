package span

import (
	"cmp"

	"plumbline/api"
)

// ints is the line of ints of 32 bits.
func ints() line[int64] {
	return line[int64]{
		least:  api.MinInt,
		most:   api.MaxInt,
		past:   api.TrapOver,
		order:  func(x, y int64) int { return cmp.Compare(x, y) },
		plain:  func(x int64) int64 { return x },
		isOne:  func(x int64) bool { return x >= api.MinInt && x <= api.MaxInt },
		prev:   func(x int64) int64 { return x - 1 },
		next:   func(x int64) int64 { return x + 1 },
		byOne:  intByOne,
		byTwo:  intByTwo,
		byZero: func(stretch[int64]) api.Traps { return trapsOf(api.TrapZero) },
	}
}

// intByOne is how one is reckoned with: none, if op says nothing of an int.
func intByOne(op api.Op) func(x int64) int64 {
	switch op {
	case api.Neg:
		return func(x int64) int64 { return -x }
	case api.Abs:
		return func(x int64) int64 { return max(x, -x) }
	}
	return nil
}

// intByTwo is how two are reckoned with, the second one not 0 where it divides.
func intByTwo(op api.Op) func(x, y int64) int64 {
	switch op {
	case api.Add:
		return func(x, y int64) int64 { return x + y }
	case api.Sub:
		return func(x, y int64) int64 { return x - y }
	case api.Mul:
		return func(x, y int64) int64 { return x * y }
	case api.Div:
		return func(x, y int64) int64 { return x / y }
	}
	return nil
}
