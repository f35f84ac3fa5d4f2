package state

import (
	"plumbline/api"
	"plumbline/span"
)

// ranges are those of all variables, by their numbers: of an int its float is Empty, of a float its int.
type ranges struct {
	ints   []api.IntRange
	floats []api.FloatRange
}

func noRanges(n int) ranges {
	r := ranges{ints: make([]api.IntRange, n), floats: make([]api.FloatRange, n)}
	for v := range n {
		r.ints[v].Empty = true
		r.floats[v].Empty = true
	}
	return r
}

// copied has no room that the other one has: what is put in it is put there alone.
func (r ranges) copied() ranges {
	return ranges{
		ints:   append(r.ints[:0:0], r.ints...),
		floats: append(r.floats[:0:0], r.floats...),
	}
}

// moved is what the numbers of a that is not Empty (negated, if neg) and c are, as far as they are ints.
func moved(a api.IntRange, neg bool, c int64) api.IntRange {
	lo, hi := a.Lo, a.Hi
	if neg {
		lo, hi = -hi, -lo
	}
	// Where all of them lie past the ints, the ends are turned about then, and that is none.
	return span.IntOf(max(lo+c, api.MinInt), min(hi+c, api.MaxInt))
}
