package span_test

import (
	"cmp"
	"math"
	"slices"

	"plumbline/api"
)

// formats are those of the document, and some that are none.
var formats = []api.Format{api.Double, api.Single, -1, 2, 1 << 40}

// bothFormats are those of the document.
var bothFormats = []api.Format{api.Double, api.Single}

const (
	nanTrap  = api.Traps(1 << (api.TrapNan - 1))
	infTrap  = api.Traps(1 << (api.TrapInf - 1))
	convTrap = api.Traps(1 << (api.TrapConv - 1))
	overTrap = api.Traps(1 << (api.TrapOver - 1))
	zeroTrap = api.Traps(1 << (api.TrapZero - 1))
)

var none = api.FloatRange{Empty: true}

// bitsOf and valueOf go from the machine's numbers to a format's bits and back.
func bitsOf(f api.Format, x float64) uint64 {
	if f == api.Single {
		return uint64(math.Float32bits(float32(x)))
	}
	return math.Float64bits(x)
}

func valueOf(f api.Format, bits uint64) float64 {
	if f == api.Single {
		return float64(math.Float32frombits(uint32(bits)))
	}
	return math.Float64frombits(bits)
}

// rangeOf is from one of the machine's numbers to another.
func rangeOf(f api.Format, lo, hi float64) api.FloatRange {
	return api.FloatRange{Lo: bitsOf(f, lo+0), Hi: bitsOf(f, hi+0)}
}

func mostOf(f api.Format) float64 {
	if f == api.Single {
		return math.MaxFloat32
	}
	return math.MaxFloat64
}

func leastOf(f api.Format) float64 {
	if f == api.Single {
		return math.SmallestNonzeroFloat32
	}
	return math.SmallestNonzeroFloat64
}

// step is the float that stands so many places behind another one.
func step(f api.Format, x float64, by int) float64 {
	to := math.Inf(cmp.Compare(by, 0))
	for range max(by, -by) {
		if f == api.Single {
			x = float64(math.Nextafter32(float32(x), float32(to)))
		} else {
			x = math.Nextafter(x, to)
		}
	}
	return x + 0
}

// edges are floats at which something turns, rising.
func edges(f api.Format) []float64 {
	l := []float64{0}
	low, root := 0x1p-1022, 0x1p512
	if f == api.Single {
		low, root = 0x1p-126, 0x1p64
	}
	for _, x := range []float64{leastOf(f), 3 * leastOf(f), low, 0.5, 1, step(f, 1, 1), 3, root, mostOf(f) / 2, step(f, mostOf(f), -1), mostOf(f)} {
		l = append(l, x, -x)
	}
	slices.Sort(l)
	return l
}

// ranges are all from one edge to another.
func ranges(f api.Format) []api.FloatRange {
	var all []api.FloatRange
	l := edges(f)
	for k, lo := range l {
		for _, hi := range l[k:] {
			all = append(all, rangeOf(f, lo, hi))
		}
	}
	return all
}

// near is what two come to as floats of the machine.
func near(f api.Format, op api.Op, x, y float64) float64 {
	if f == api.Single {
		a, b := float32(x), float32(y)
		return float64([...]float32{api.Add: a + b, api.Sub: a - b, api.Mul: a * b, api.Div: a / b}[op])
	}
	return [...]float64{api.Add: x + y, api.Sub: x - y, api.Mul: x * y, api.Div: x / y}[op]
}

// root is a float's, of the machine; a Single's root as a Double has places enough to be rounded once more.
func root(f api.Format, x float64) float64 {
	if f == api.Single {
		return float64(float32(math.Sqrt(x)))
	}
	return math.Sqrt(x)
}

// clipped is from the least to the greatest of results, and the traps of those that are none.
func clipped(f api.Format, l ...float64) (api.FloatRange, api.Traps) {
	if len(l) == 0 {
		return none, 0
	}
	var traps api.Traps
	for _, x := range l {
		if math.IsInf(x, 0) {
			traps = infTrap
		}
	}
	lo, hi := slices.Min(l), slices.Max(l)
	if math.IsInf(lo, 1) || math.IsInf(hi, -1) {
		return none, traps
	}
	return rangeOf(f, max(lo, -mostOf(f)), min(hi, mostOf(f))), traps
}

// dice are numbers that look like chance but are always the same.
type dice uint64

func (d *dice) next() uint64 {
	*d ^= *d << 13
	*d ^= *d >> 7
	*d ^= *d << 17
	return uint64(*d) * 0x2545f4914f6cdd1d
}

func (d *dice) below(n int) int { return int(d.next() >> 33 % uint64(n)) }

// float is any finite one, or an edge.
func (d *dice) float(f api.Format) float64 {
	l := edges(f)
	switch d.below(3) {
	case 0:
		return l[d.below(len(l))]
	case 1:
		return step(f, l[d.below(len(l)-2)+1], d.below(3)-1)
	}
	for {
		x := valueOf(f, d.next())
		if x-x == 0 {
			return x + 0
		}
	}
}

// floatRange is any that is right, and not Empty.
func (d *dice) floatRange(f api.Format) api.FloatRange {
	x, y := d.float(f), d.float(f)
	if d.below(4) == 0 {
		y = x
	}
	return rangeOf(f, min(x, y), max(x, y))
}

// within is any number of a range: also one that lies about in the middle of its bits.
func (d *dice) within(f api.Format, a api.FloatRange) float64 {
	lo, hi := valueOf(f, a.Lo), valueOf(f, a.Hi)
	for _, x := range []float64{d.float(f), lo / 2, hi / 2, lo, hi}[d.below(4):] {
		if x = valueOf(f, bitsOf(f, x)); x >= lo && x <= hi {
			return x + 0
		}
	}
	return hi
}

// wider is a range that has another one.
func (d *dice) wider(f api.Format, a api.FloatRange) api.FloatRange {
	if a.Empty {
		return d.floatRange(f)
	}
	lo, hi := valueOf(f, a.Lo), valueOf(f, a.Hi)
	return rangeOf(f, min(lo, d.float(f)), max(hi, d.float(f)))
}

// wrongRanges are some that are not right.
func wrongRanges(f api.Format) []api.FloatRange {
	one, sign, nan, inf := bitsOf(f, 1), bitsOf(f, math.Copysign(0, -1)), bitsOf(f, math.NaN()), bitsOf(f, math.Inf(1))
	l := []api.FloatRange{
		{Empty: true, Lo: 1}, {Empty: true, Hi: one}, {Empty: true, Lo: one, Hi: one}, {Empty: true, Lo: sign, Hi: 0},
		{Lo: one, Hi: 0}, {Lo: 0, Hi: one | sign}, {Lo: one + 1, Hi: one}, {Lo: one | sign, Hi: one + 1 | sign},
		{Lo: sign, Hi: one}, {Lo: sign, Hi: sign}, {Lo: 0, Hi: sign}, {Lo: one | sign, Hi: sign},
		{Lo: nan, Hi: nan}, {Lo: 0, Hi: nan}, {Lo: nan, Hi: 0}, {Lo: nan | sign, Hi: one},
		{Lo: inf | sign, Hi: inf}, {Lo: 0, Hi: inf}, {Lo: inf | sign, Hi: 0}, {Lo: inf, Hi: inf}, {Lo: inf, Hi: 0},
	}
	if f == api.Single {
		l = append(l, api.FloatRange{Lo: 0, Hi: one | 1<<32}, api.FloatRange{Lo: 1 << 63, Hi: one}, api.FloatRange{Lo: 1 << 40, Hi: 1 << 40}, api.FloatRange{Lo: 0, Hi: 0x3ff0000000000000})
	}
	return l
}

// wrongInts are some that are not right.
func wrongInts() []api.IntRange {
	return []api.IntRange{
		{Empty: true, Lo: 1}, {Empty: true, Hi: 1}, {Empty: true, Lo: -1, Hi: 1}, {Lo: 1}, {Lo: 0, Hi: -1}, {Lo: api.MaxInt, Hi: api.MinInt},
		{Lo: api.MinInt - 1}, {Hi: api.MaxInt + 1}, {Lo: math.MinInt64, Hi: math.MaxInt64}, {Lo: math.MinInt64, Hi: math.MinInt64}, {Lo: math.MaxInt64, Hi: math.MinInt64}, {Lo: math.MaxInt64, Hi: math.MaxInt64}, {Lo: math.MaxInt64, Hi: 0},
	}
}

var noInts = api.IntRange{Empty: true}

// allOps are all, and some that are none.
func allOps() []api.Op {
	l := []api.Op{math.MinInt, -1, 22, math.MaxInt}
	for op := api.NoOp; op <= api.Not; op++ {
		l = append(l, op)
	}
	return l
}

// intsOf is from one int to another.
func intsOf(lo, hi int64) api.IntRange { return api.IntRange{Lo: lo, Hi: hi} }

// topOf is what Top must be.
func topOf(f api.Format) api.FloatRange { return rangeOf(f, -mostOf(f), mostOf(f)) }
