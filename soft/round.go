package soft

import (
	"plumbline/api"
	"plumbline/wide"
)

// farthest is the greatest power of 2, up or down, that Round takes as it is.
const farthest = 4000

// rest is how what is cut off stands to half of the last place that is kept.
type rest int

const (
	noRest rest = iota
	underHalf
	halfRest
	overHalf
)

// rounding tells whether what is kept goes one step away from 0.
type rounding struct {
	away func(below, odd bool, left rest) bool
}

func roundingOf(m api.Mode) rounding {
	switch m {
	case api.Up:
		return rounding{away: awayUp}
	case api.Down:
		return rounding{away: awayDown}
	case api.Zero:
		return rounding{away: neverAway}
	}
	return rounding{away: awayNear}
}

func awayNear(below, odd bool, left rest) bool {
	return left == overHalf || left == halfRest && odd
}

func awayUp(below, odd bool, left rest) bool {
	return left != noRest && !below
}

func awayDown(below, odd bool, left rest) bool {
	return left != noRest && below
}

func neverAway(below, odd bool, left rest) bool {
	return false
}

// withQuarter is n and a quarter, times 2 to the e, as a whole number times a power of 2.
func withQuarter(n api.U128, e int) (api.U128, int) {
	// So great a number loses far more than two bits when it is rounded: there any bit at its end tells that there is more.
	if wide.Len(n) > 126 {
		n.Lo |= 1
		return n, e
	}
	n = wide.Shl(n, 2)
	n.Lo |= 1
	return n, e - 2
}

// cut is n without its last places, and what they come to; below 0 places zeros are put behind it.
func cut(n api.U128, places int) (uint64, rest) {
	if places <= 0 {
		return wide.Shl(n, -places).Lo, noRest
	}
	doubled, lost := wide.Shr(n, places-1)
	kept, half := wide.Shr(doubled, 1)
	switch {
	case half && lost:
		return kept.Lo, overHalf
	case half:
		return kept.Lo, halfRest
	case lost:
		return kept.Lo, underHalf
	}
	return kept.Lo, noRest
}

// tooGreat is the size of what lies past the greatest finite one.
func (k format) tooGreat(r rounding, below bool) uint64 {
	// The greatest finite one ends with a 1, and at least half a step is left above it.
	if r.away(below, true, overHalf) {
		return k.infinite
	}
	return k.most()
}

// size is n times 2 to the e, rounded; n is not 0.
func (k format) size(r rounding, below bool, n api.U128, e int) uint64 {
	last := max(wide.Len(n)-(k.places+1)+e, k.least)
	exponent := last - k.least
	if exponent >= int(k.infinite>>k.places) {
		return k.tooGreat(r, below)
	}
	kept, left := cut(n, last-e)
	if r.away(below, kept&1 == 1, left) {
		kept++
	}
	// The bit ahead of the fraction counts the exponent one up, and so does a carry out of it.
	size := uint64(exponent)<<k.places + kept
	if size >= k.infinite {
		return k.tooGreat(r, below)
	}
	return size
}
