package span

import (
	"iter"

	"plumbline/api"
)

// number is what a line is made of: ints, or the bits of floats. Of both 0 is 0.
type number interface {
	int64 | uint64
}

// stretch is the numbers of a line from lo to hi; or none.
type stretch[N number] struct {
	empty  bool
	lo, hi N
}

func none[N number]() stretch[N] {
	return stretch[N]{empty: true}
}

func ofFloats(a api.FloatRange) stretch[uint64] {
	return stretch[uint64]{empty: a.Empty, lo: a.Lo, hi: a.Hi}
}

func ofInts(a api.IntRange) stretch[int64] {
	return stretch[int64]{empty: a.Empty, lo: a.Lo, hi: a.Hi}
}

func floatRange(a stretch[uint64]) api.FloatRange {
	return api.FloatRange{Empty: a.empty, Lo: a.lo, Hi: a.hi}
}

func intRange(a stretch[int64]) api.IntRange {
	return api.IntRange{Empty: a.empty, Lo: a.lo, Hi: a.hi}
}

// bothEnds are both ends of a with both ends of each of bs.
func bothEnds[N number](a stretch[N], bs ...stretch[N]) iter.Seq2[N, N] {
	return func(yield func(N, N) bool) {
		for x := range ends(a) {
			for y := range ends(bs...) {
				if !yield(x, y) {
					return
				}
			}
		}
	}
}

// ends are the ends of those that have some.
func ends[N number](l ...stretch[N]) iter.Seq[N] {
	return func(yield func(N) bool) {
		for _, a := range l {
			if a.empty {
				continue
			}
			if !yield(a.lo) || !yield(a.hi) {
				return
			}
		}
	}
}

// each is what becomes of the ends of all.
func each[N, M number](by func(N) M, l ...stretch[N]) iter.Seq[M] {
	return func(yield func(M) bool) {
		for x := range ends(l...) {
			if !yield(by(x)) {
				return
			}
		}
	}
}

// eachOfBoth is what becomes of both ends of a with both ends of each of bs.
func eachOfBoth[N number](by func(x, y N) N, a stretch[N], bs ...stretch[N]) iter.Seq[N] {
	return func(yield func(N) bool) {
		for x, y := range bothEnds(a, bs...) {
			if !yield(by(x, y)) {
				return
			}
		}
	}
}
