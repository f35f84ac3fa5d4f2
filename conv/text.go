package conv

import (
	"strconv"
	"strings"

	"plumbline/api"
	"plumbline/soft"
	"plumbline/wide"
)

// Literal is the value of digits, a point and digits, to the nearest float.
func Literal(f api.Format, s string) (uint64, api.Errno) {
	var ahead, behind []byte
	e := api.ErrForm
	point := digitsOf(s)
	if point == 0 || point == len(s) || s[point] != '.' {
		goto out
	}
	if point+1 == len(s) || digitsOf(s[point+1:]) != len(s)-point-1 {
		goto out
	}
	e = api.ErrDigits
	if len(s)-1 > api.MaxDigits {
		goto out
	}
	ahead, behind = cutOut(s, point)
	return decimal(f, number(string(append(ahead, behind...))), len(behind)), api.OK
out:
	return 0, e
}

// Int is what digits say as an int.
func Int(s string) (int64, api.Errno) {
	var n uint64
	e := api.ErrForm
	if s == "" || digitsOf(s) != len(s) {
		goto out
	}
	e = api.ErrDigits
	if len(s) > api.MaxDigits {
		goto out
	}
	e = api.ErrRange
	n = number(s)
	if n > api.MaxInt {
		goto out
	}
	return int64(n), api.OK
out:
	return 0, e
}

// Hex is the bits of a as digits of base 16.
func Hex(f api.Format, a uint64) string {
	if soft.Class(f, a) == api.NoClass {
		a = soft.Nan(f)
	}
	digits := strconv.FormatUint(a, 16)
	return strings.Repeat("0", shapeOf(f).width/4-len(digits)) + digits
}

// digitsOf is how many digits s begins with.
func digitsOf(s string) int {
	for i := range s {
		if s[i] < '0' || s[i] > '9' {
			return i
		}
	}
	return len(s)
}

// number is what at most MaxDigits digits say: these fit into a word.
func number(s string) uint64 {
	var n uint64
	for i := range s {
		n = 10*n + uint64(s[i]-'0')
	}
	return n
}

// cutOut is what stands ahead of a byte of s, and what stands behind it; neither has room in which an append would write over the other one.
func cutOut(s string, at int) (ahead, behind []byte) {
	text := []byte(s)
	return text[:at:at], text[at+1 : len(text) : len(text)]
}

// decimal is n by 10 to the places, to the nearest float; both are of at most MaxDigits digits.
func decimal(f api.Format, n uint64, places int) uint64 {
	by := uint64(1)
	for range places {
		by *= 10
	}
	// With all 128 bits the quotient has at least 71 of them, so that what is more lies far below half of a step.
	up := 128 - wide.Len(api.U128{Lo: n})
	quotient, left := wide.Div(wide.Shl(api.U128{Lo: n}, up), by)
	return soft.Round(f, api.Near, false, quotient, -up, left != 0)
}
