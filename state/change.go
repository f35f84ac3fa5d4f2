package state

import (
	"plumbline/api"
	"plumbline/fcheck"
	"plumbline/fint"
	"plumbline/octagon"
	"plumbline/span"
)

// farthest is how far from 0 a number may be that CopyInt and Relate add.
const farthest = 1 << 33

// begun is a state in which each int, and each float, has the same range.
func begun(u *fcheck.Unit, ints api.IntRange, floats func(f api.Format) api.FloatRange) *State {
	if u == nil {
		return nil
	}
	vars := variablesOf(u.Vars())
	s := &State{ranges: noRanges(len(vars.decls)), variables: vars, sums: octagon.New(len(vars.places))}
	for v := range vars.decls {
		if s.isFloat(v) {
			s.floats[v] = floats(s.format(v))
			continue
		}
		s.ints[v] = ints
		if i, ok := s.places[v]; ok {
			s.sums.Set(i, ints)
		}
	}
	return s
}

// fork is another one, that may be changed till it is told.
func (s *State) fork() *State {
	return &State{ranges: s.copied(), variables: s.variables, sums: s.sums.Fork(), bottom: s.bottom}
}

// unset is s, where a variable is set to what is none.
func (s *State) unset(weak bool) *State {
	if weak {
		return s
	}
	return s.Kill()
}

// reset is r, which is s with v set; or both, if some of v may be as it was.
func (s *State) reset(r *State, v int, weak bool) *State {
	if weak || s.hasOthers(v) {
		return s.Join(r)
	}
	return r
}

// free lets an int be anything; it is narrowed ahead of being told, since an octagon goes past the ints.
func (s *State) free(v int) {
	s.ints[v] = span.IntTop()
	if i, ok := s.places[v]; ok {
		s.sums.Forget(i)
	}
}

// narrowed leaves of s just what has v in a.
func (s *State) narrowed(v int, a api.IntRange) *State {
	s.ints[v] = span.IntMeet(s.ints[v], a)
	if s.ints[v].Empty {
		return s.Kill()
	}
	if i, ok := s.places[v]; ok {
		s.sums.Set(i, a)
	}
	return s.settled()
}

// settled lets the ranges be what the sums tell.
func (s *State) settled() *State {
	if s.sums.Empty() {
		return s.Kill()
	}
	for v, i := range s.places {
		s.ints[v] = s.sums.Range(i)
	}
	return s
}

// mayRelate tells whether CopyInt and Relate say something.
func (s *State) mayRelate(v, w int, c int64) bool {
	return !s.Bottom() && s.isSingleInt(v) && s.isSingleInt(w) && c >= -farthest && c <= farthest
}

// relatedAlone is Relate of two that have not both a place: just their ranges are known then.
func (s *State) relatedAlone(v int, nv bool, w int, nw bool, c int64) *State {
	pair := octagon.New(2)
	i, k := 0, 1
	if v == w {
		k = i
	}
	pair.Set(i, s.ints[v])
	pair.Set(k, s.ints[w])
	pair.Limit(i, nv, k, nw, c)
	return s.LessInt(v, pair.Range(i)).LessInt(w, pair.Range(k))
}

func alike(s, t *State) bool {
	return s.areAlike(t.variables)
}

// onlyOne is what two come to of which not both are reached; of unlike programs it is the first one, too.
func onlyOne(s, t *State) (*State, bool) {
	switch {
	case t == nil:
		return s, true
	case s.Bottom():
		return t, true
	case t.Bottom() || !alike(s, t):
		return s, true
	}
	return nil, false
}

// together has, of each variable, what is made of both's ranges, and what is made of both's sums.
func (s *State) together(
	t *State,
	ints func(a, b api.IntRange) api.IntRange,
	floats func(f api.Format, a, b api.FloatRange) api.FloatRange,
	sums func(o, p *octagon.Oct) *octagon.Oct,
) *State {
	r := s.fork()
	for v := range r.decls {
		r.ints[v] = ints(s.ints[v], t.ints[v])
		r.floats[v] = floats(r.format(v), s.floats[v], t.floats[v])
	}
	r.sums = sums(s.sums, t.sums)
	return r
}

// haveAll tells whether all cells of a variable are right, and lie in its range.
func (s *State) haveAll(v int, cells []fint.Value) bool {
	for _, c := range cells {
		if c.Type != s.decls[v].Type || !s.hasOne(v, c) {
			return false
		}
	}
	return true
}

func (s *State) hasOne(v int, c fint.Value) bool {
	if s.isInt(v) {
		return c.Bits == 0 && span.IntHas(s.ints[v], c.Int)
	}
	f, only := s.format(v), api.FloatRange{Lo: c.Bits, Hi: c.Bits}
	// A range of one number is right just if the number is: span.Has would take -0 for 0.
	return c.Int == 0 && span.Right(f, only) && span.Within(f, only, s.floats[v])
}
