package soft_test

import (
	"math/big"

	"plumbline/api"
)

// What a float is worth, and what a true number is rounded to, are worked out here once more: by fractions of any size, and by a search through all floats.

type shape struct {
	width, places, least int
}

func shapeOf(f api.Format) shape {
	if f == api.Single {
		return shape{32, 23, -149}
	}
	return shape{64, 52, -1074}
}

// modeOf is the mode that m counts as.
func modeOf(m api.Mode) api.Mode {
	if m < api.Near || m > api.Zero {
		return api.Near
	}
	return m
}

func (s shape) infinite() uint64 {
	return (1<<(s.width-1-s.places) - 1) << s.places
}

func (s shape) nan() uint64 {
	return s.infinite() + 1<<(s.places-1)
}

func power(n int) *big.Rat {
	if n < 0 {
		return new(big.Rat).Inv(power(-n))
	}
	return new(big.Rat).SetInt(new(big.Int).Lsh(big.NewInt(1), uint(n)))
}

// value is what finite bits are worth, and what infinite ones would be if the exponents went on.
func (s shape) value(bits uint64) *big.Rat {
	fraction := bits & (1<<s.places - 1)
	exponent := int(bits>>s.places) & (1<<(s.width-1-s.places) - 1)
	if exponent == 0 {
		exponent = 1
	} else {
		fraction += 1 << s.places
	}
	v := new(big.Rat).SetInt(new(big.Int).SetUint64(fraction))
	v.Mul(v, power(s.least+exponent-1))
	if bits>>(s.width-1) != 0 {
		v.Neg(v)
	}
	return v
}

// bits is the float at a place in the order of all of them, 0 at 0.
func (s shape) bits(place int64) uint64 {
	if place < 0 {
		return uint64(-place) | 1<<(s.width-1)
	}
	return uint64(place)
}

// truth is a true number, not 0, known by its sign and by how it stands to others.
type truth struct {
	below bool
	cmp   func(x *big.Rat) int
}

func truthOf(v *big.Rat) truth {
	return truth{below: v.Sign() < 0, cmp: v.Cmp}
}

// rootOf is the root of v, which is above 0.
func rootOf(v *big.Rat) truth {
	return truth{cmp: func(x *big.Rat) int {
		if x.Sign() < 0 {
			return 1
		}
		return v.Cmp(new(big.Rat).Mul(x, x))
	}}
}

// around is the places of the greatest float that is not above v, and of the least that is not below.
func (s shape) around(v truth) (int64, int64) {
	low, high := int64(0), int64(s.infinite())
	if v.below {
		low, high = -high, 0
	}
	for high-low > 1 {
		middle := low + (high-low)/2
		if v.cmp(s.value(s.bits(middle))) >= 0 {
			low = middle
		} else {
			high = middle
		}
	}
	if low > -int64(s.infinite()) && v.cmp(s.value(s.bits(low))) == 0 {
		return low, low
	}
	return low, high
}

func (s shape) nearest(v truth, low, high int64) int64 {
	half := new(big.Rat).Add(s.value(s.bits(low)), s.value(s.bits(high)))
	half.Quo(half, big.NewRat(2, 1))
	switch c := v.cmp(half); {
	case c < 0:
		return low
	case c > 0:
		return high
	}
	if low%2 == 0 {
		return low
	}
	return high
}

// rounded is v by all four modes.
func (s shape) rounded(v truth) [4]uint64 {
	low, high := s.around(v)
	toZero := low
	if v.below {
		toZero = high
	}
	var all [4]uint64
	for m, place := range [4]int64{api.Near: s.nearest(v, low, high), api.Up: high, api.Down: low, api.Zero: toZero} {
		all[m] = s.bits(place)
		if v.below {
			all[m] |= 1 << (s.width - 1)
		}
	}
	return all
}

// dice are numbers that look like chance but are always the same.
type dice uint64

func (d *dice) next() uint64 {
	*d ^= *d << 13
	*d ^= *d >> 7
	*d ^= *d << 17
	return uint64(*d) * 0x2545f4914f6cdd1d
}

// edges are the floats of a format at which something turns, with both signs.
func edges(f api.Format) []uint64 {
	s := shapeOf(f)
	one := uint64(1)<<(s.width-2) - 1<<s.places
	step := uint64(1) << s.places
	infinite := s.infinite()
	var l []uint64
	for _, x := range []uint64{0, 1, 2, 3, step / 2, step - 1, step, step + 1, 2 * step, one - 1, one, one + 1, one + step/2, one + step, one + step + step/2, one + uint64(s.places)*step, one + uint64(s.places+1)*step, one + uint64(s.places+2)*step, one - uint64(s.places+1)*step, one - uint64(s.places+2)*step + 1, infinite - step, infinite - step + 1, infinite - 2, infinite - 1, infinite, infinite + 1, s.nan(), s.nan() + 1} {
		l = append(l, x, x|1<<(s.width-1))
	}
	if s.width < 64 {
		l = append(l, 1<<s.width, 1<<63, one|1<<40)
	}
	return l
}

// floats is a number of floats: some of any kind, some near others, some with few bits.
func floats(f api.Format, seed dice, n int) []uint64 {
	s := shapeOf(f)
	l := make([]uint64, 0, n)
	for len(l) < n {
		x := seed.next() >> (64 - s.width)
		switch seed.next() % 4 {
		case 0:
			x &= ^uint64(0) << (s.places - int(seed.next()%8))
		case 1:
			mask := (uint64(1)<<(s.width-4-s.places) - 1) << (s.places + 2)
			x = x&^mask&^(1<<(s.width-2)) | mask
		case 2:
			x &^= (1<<(s.width-1-s.places) - 1) << (s.places + int(seed.next()%8))
		}
		l = append(l, x)
	}
	return l
}

// place is where bits stand in the order of all floats.
func (s shape) place(bits uint64) int64 {
	size := int64(bits &^ (1 << (s.width - 1)))
	if bits>>(s.width-1) != 0 {
		return -size
	}
	return size
}
