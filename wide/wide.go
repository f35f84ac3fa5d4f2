// Package wide is numbers of 128 bits. See ../../shared/doc/01-wide.md.
package wide

import (
	"math/bits"

	"plumbline/api"
)

// Add is the sum of a and b without what is above 2^128, and whether it went round.
func Add(a, b api.U128) (api.U128, bool) {
	lo, carry := bits.Add64(a.Lo, b.Lo, 0)
	hi, carry := bits.Add64(a.Hi, b.Hi, carry)
	return api.U128{Hi: hi, Lo: lo}, carry != 0
}

// Sub is the difference of a and b without what is above 2^128, and whether it went round.
func Sub(a, b api.U128) (api.U128, bool) {
	lo, borrow := bits.Sub64(a.Lo, b.Lo, 0)
	hi, borrow := bits.Sub64(a.Hi, b.Hi, borrow)
	return api.U128{Hi: hi, Lo: lo}, borrow != 0
}

// Mul is the product of a and b.
func Mul(a, b uint64) api.U128 {
	hi, lo := bits.Mul64(a, b)
	return api.U128{Hi: hi, Lo: lo}
}

// Shl is a times 2^n without what is above 2^128; an n below 0 is 0.
func Shl(a api.U128, n int) api.U128 {
	n = max(n, 0)
	if n >= 64 {
		return api.U128{Hi: a.Lo << (n - 64)}
	}
	return api.U128{Hi: a.Hi<<n | a.Lo>>(64-n), Lo: a.Lo << n}
}

// Shr is a by 2^n without its places, and whether one was lost that is not 0; an n below 0 is 0.
func Shr(a api.U128, n int) (api.U128, bool) {
	n = max(n, 0)
	var moved api.U128
	if n >= 64 {
		moved.Lo = a.Hi >> (n - 64)
	} else {
		moved = api.U128{Hi: a.Hi >> n, Lo: a.Hi<<(64-n) | a.Lo>>n}
	}
	// What was lost is just what moving back does not bring again.
	return moved, Shl(moved, n) != a
}

// Len is how many bits a has, 0 of 0.
func Len(a api.U128) int {
	if a.Hi != 0 {
		return 64 + bits.Len64(a.Hi)
	}
	return bits.Len64(a.Lo)
}

// words is a number as an array, the word that weighs most first.
func words(a api.U128) [2]uint64 {
	return [2]uint64{a.Hi, a.Lo}
}

// Compare is -1 if a is below b, 1 if it is above, else 0.
func Compare(a, b api.U128) int {
	x, y := words(a), words(b)
	for i := range x {
		if x[i] < y[i] {
			return -1
		}
		if x[i] > y[i] {
			return 1
		}
	}
	return 0
}

// Div is the quotient of a and b, and the rest; both are 0 if b is 0.
func Div(a api.U128, b uint64) (api.U128, uint64) {
	if b == 0 {
		return api.U128{}, 0
	}
	// The upper word's rest is below b, so that the lower quotient fits into a word.
	lo, rest := bits.Div64(a.Hi%b, a.Lo, b)
	return api.U128{Hi: a.Hi / b, Lo: lo}, rest
}

// Sqrt is the greatest whole number whose square is not above a, and what is left.
func Sqrt(a api.U128) (uint64, api.U128) {
	var root uint64
	var left api.U128
	at := 126
next:
	pair, _ := Shr(a, at)
	left = Shl(left, 2)
	left.Lo |= pair.Lo & 3
	// The root with one bit more is 2 root and 1: its square grows by 4 root and 1, in steps of this pair.
	grows := Shl(api.U128{Lo: root}, 2)
	grows.Lo |= 1
	root <<= 1
	if Compare(left, grows) >= 0 {
		left, _ = Sub(left, grows)
		root |= 1
	}
	if at > 0 {
		at -= 2
		goto next
	}
	return root, left
}
