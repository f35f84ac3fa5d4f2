package conv

import (
	"plumbline/api"
	"plumbline/soft"
	"plumbline/wide"
)

// shape is how a format lays out its bits.
type shape struct {
	width  int // bits of a float
	places int // bits of its fraction
	least  int // the last place of the smallest floats is 2 to this
}

func shapeOf(f api.Format) shape {
	if f == api.Single {
		return shape{width: 32, places: 23, least: -149}
	}
	return shape{width: 64, places: 52, least: -1074}
}

func (s shape) sign() uint64 {
	return 1 << (s.width - 1)
}

// parts is a finite float taken apart: whole times 2 to the power is its size.
type parts struct {
	below bool
	whole uint64
	power int
}

func split(f api.Format, a uint64) parts {
	s := shapeOf(f)
	p := parts{below: a&s.sign() != 0, power: s.least}
	p.whole = a & (1<<s.places - 1)
	if exponent := int((a &^ s.sign()) >> s.places); exponent > 0 {
		p.whole |= 1 << s.places
		p.power += exponent - 1
	}
	return p
}

// withoutPlaces is the size without its places, or, of one that no int comes near, another such one.
func (p parts) withoutPlaces() api.U128 {
	// Moved up by 64 it is past all ints already, and still fits; the move of the other direction has a number below 0, and does nothing.
	size := wide.Shl(api.U128{Lo: p.whole}, min(p.power, 64))
	size, _ = wide.Shr(size, -p.power)
	return size
}

// convert is a float of one format as one of another, rounded.
func convert(from, to api.Format, m api.Mode, a uint64) uint64 {
	p := split(from, a)
	switch soft.Class(from, a) {
	case api.NoClass, api.IsNan:
		return soft.Nan(to)
	case api.IsInf:
		return infinite(to, p.below)
	}
	return soft.Round(to, m, p.below, api.U128{Lo: p.whole}, p.power, false)
}

func infinite(f api.Format, below bool) uint64 {
	// Behind the greatest finite one comes the infinite one.
	a := soft.Most(f) + 1
	if below {
		return soft.Neg(f, a)
	}
	return a
}
