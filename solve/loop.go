package solve

import (
	"plumbline/api"
	"plumbline/state"
)

// patience is how often a loop is widened, beside once for each threshold, ahead of taking its variables apart.
const patience = 8

// loop goes through a While till what comes back from its block was known ahead of it.
func (w *walk) loop(s *state.State, x statement) *state.State {
	head, times := s, 0
again:
	for {
		// From all that may be nothing else comes: so one time more is enough, for this loop and for each one around it.
		last := w.isTired()
		if last {
			head = state.Top(w.unit)
		}
		yes, no := w.branch(head, x)
		back := w.block(yes, x.then)
		if !last && !back.Within(head) {
			head = w.wider(head, back, times)
			times++
			continue again
		}
		return no
	}
}

// wider has what both have: just that for the first times, then so much more that it comes to an end.
func (w *walk) wider(head, back *state.State, times int) *state.State {
	thresholds := w.options.Thresholds
	switch {
	case times < w.options.Delay:
		return head.Join(back)
	case times < w.options.Delay+len(thresholds)+patience:
		return head.Widen(back, thresholds...)
	}
	return w.parted(head, back)
}

// parted has what both have, too, and of each variable just what is known of it alone: the ends that stayed where they were. (What is known of two may let a bound that was widened come back, and creep from time to time.)
func (w *walk) parted(head, back *state.State) *state.State {
	both, r := head.Join(back), state.Top(w.unit)
	for v := range w.unit.Vars() {
		was, is, all := head.Int(v), both.Int(v), r.Int(v)
		r = r.LessInt(v, api.IntRange{Lo: end(was.Lo, is.Lo, all.Lo), Hi: end(was.Hi, is.Hi, all.Hi)})
		old, now, most := head.Float(v), both.Float(v), r.Float(v)
		r = r.LessFloat(v, api.FloatRange{Lo: end(old.Lo, now.Lo, most.Lo), Hi: end(old.Hi, now.Hi, most.Hi)})
	}
	return r
}

// end is that of a range: where it was, if it is there still; else the farthest.
func end[N comparable](was, is, farthest N) N {
	if was == is {
		return was
	}
	return farthest
}
