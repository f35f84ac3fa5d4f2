package soft

import "plumbline/api"

// numbers are what sets one format apart from another.
type numbers struct {
	width  int // bits of a float
	places int // bits of its fraction
	least  int // the last place of the smallest floats is 2 to this
}

// format is numbers, and the masks that follow of them.
type format struct {
	numbers
	sign     uint64
	infinite uint64
}

func formatOf(f api.Format) format {
	n := numbers{width: 64, places: 52, least: -1074}
	if f == api.Single {
		n = numbers{width: 32, places: 23, least: -149}
	}
	sign := uint64(1) << (n.width - 1)
	return format{numbers: n, sign: sign, infinite: sign - 1<<n.places}
}

func (k format) nan() uint64 {
	return k.infinite | 1<<(k.places-1)
}

func (k format) most() uint64 {
	return k.infinite - 1
}

// signed is the float of that size, with a sign if it is below 0.
func (k format) signed(below bool, size uint64) uint64 {
	if below {
		return size | k.sign
	}
	return size
}

func (k format) class(a uint64) api.Class {
	size := a &^ k.sign
	switch {
	case a>>k.width != 0:
		return api.NoClass
	case size > k.infinite:
		return api.IsNan
	case size == k.infinite:
		return api.IsInf
	case size == 0:
		return api.IsZero
	case size>>k.places == 0:
		return api.IsSub
	}
	return api.IsNormal
}

// order is a number that grows as the floats' values do, alike for both zeros.
func (k format) order(a uint64) int64 {
	size := int64(a &^ k.sign)
	if a&k.sign != 0 {
		return -size
	}
	return size
}

// parts is a float taken apart: of a finite one whole times 2 to the power is its size.
type parts struct {
	class api.Class
	below bool
	whole uint64
	power int
}

func (k format) split(a uint64) parts {
	p := parts{class: k.class(a), below: a&k.sign != 0, power: k.least}
	p.whole = a & (1<<k.places - 1)
	if exponent := int((a &^ k.sign) >> k.places); exponent > 0 {
		p.whole |= 1 << k.places
		p.power += exponent - 1
	}
	return p
}

func (p parts) noNumber() bool {
	return p.class == api.NoClass || p.class == api.IsNan
}

func (p parts) isInfinite() bool {
	return p.class == api.IsInf
}

func (p parts) isZero() bool {
	return p.class == api.IsZero
}
