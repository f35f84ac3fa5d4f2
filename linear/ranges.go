package linear

import (
	"plumbline/api"
	"plumbline/conv"
	"plumbline/soft"
	"plumbline/span"
)

// outward is from the least to the greatest that both ends of a come to with both ends of b, rounded away from one another.
func outward(by func(f api.Format, m api.Mode, x, y uint64) uint64, a, b api.FloatRange) (api.FloatRange, bool) {
	switch {
	case !isRange(a) || !isRange(b):
		return api.FloatRange{}, false
	case a.Empty || b.Empty:
		return api.FloatRange{Empty: true}, true
	}
	lo, hi := by(api.Double, api.Down, a.Lo, b.Lo), by(api.Double, api.Up, a.Hi, b.Hi)
	for _, x := range [2]uint64{a.Lo, a.Hi} {
		for _, y := range [2]uint64{b.Lo, b.Hi} {
			lo = lesser(lo, by(api.Double, api.Down, x, y))
			hi = greater(hi, by(api.Double, api.Up, x, y))
		}
	}
	r := span.Of(api.Double, lo, hi)
	if r.Empty {
		return api.FloatRange{}, false
	}
	return r, true
}

func lesser(x, y uint64) uint64 {
	if order, _ := soft.Compare(api.Double, x, y); order > 0 {
		return y
	}
	return x
}

func greater(x, y uint64) uint64 {
	if order, _ := soft.Compare(api.Double, x, y); order < 0 {
		return y
	}
	return x
}

// turned is a range turned about 0.
func turned(a api.FloatRange) api.FloatRange {
	return api.FloatRange{Lo: negated(a.Hi), Hi: negated(a.Lo)}
}

func negated(x uint64) uint64 {
	return conv.Plain(api.Double, soft.Neg(api.Double, x))
}
