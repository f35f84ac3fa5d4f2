package conv_test

import (
	"plumbline/api"
)

// formats and modes are those of the document, and some that are none.
var formats = []api.Format{api.Double, api.Single, -1, 2, 1 << 40}

var modes = []api.Mode{api.Near, api.Up, api.Down, api.Zero, -1, 4, 1 << 40}

// named are the floats of a format that the document's words speak of.
type named struct {
	f                                   api.Format
	sign, inf, nan, one, two, most, low uint64
}

func namedOf(f api.Format) named {
	if f == api.Single {
		return named{f, 0x80000000, 0x7f800000, 0x7fc00000, 0x3f800000, 0x40000000, 0x7f7fffff, 0x00800000}
	}
	return named{f, 1 << 63, 0x7ff0000000000000, 0x7ff8000000000000, 0x3ff0000000000000, 0x4000000000000000, 0x7fefffffffffffff, 0x0010000000000000}
}

// noNumbers are bits that are none.
func (k named) noNumbers() []uint64 {
	l := []uint64{k.nan, k.nan + 1, k.nan | k.sign, k.inf + 1, k.inf + 1 | k.sign, k.sign - 1}
	return append(l, k.noBits()...)
}

// noBits are bits that are none of a Single; a Double has none of that kind.
func (k named) noBits() []uint64 {
	if k.f == api.Single {
		return []uint64{1 << 32, 1 << 63, k.one | 1<<32, k.inf | 1<<40, k.nan | 1<<63, ^uint64(0)}
	}
	return nil
}

// finite are finite floats at which something turns, with both signs, and many others.
func (k named) finite() []uint64 {
	var l []uint64
	for _, x := range []uint64{0, 1, 2, 3, k.low - 2, k.low - 1, k.low, k.low + 1, k.one - 1, k.one, k.one + 1, k.two - 1, k.two, k.two + 1, k.most - 1, k.most} {
		l = append(l, x, x|k.sign)
	}
	d := dice(88172645463325252)
	for range 20000 {
		if x := d.next() & (k.sign | k.sign - 1); x&^k.sign <= k.most {
			l = append(l, x)
		}
	}
	return l
}

// dice are numbers that look like chance but are always the same.
type dice uint64

func (d *dice) next() uint64 {
	*d ^= *d << 13
	*d ^= *d >> 7
	*d ^= *d << 17
	return uint64(*d) * 0x2545f4914f6cdd1d
}

// modeOf is the mode that m counts as.
func modeOf(m api.Mode) api.Mode {
	if m < api.Near || m > api.Zero {
		return api.Near
	}
	return m
}
