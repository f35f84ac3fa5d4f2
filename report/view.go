package report

import (
	"strconv"

	"plumbline/api"
	"plumbline/conv"
	"plumbline/state"
)

// view is a state, as it is shown.
type view struct {
	*state.State
}

// endsOf is how the ends of a variable's range are written, by its type.
func (w view) endsOf(t api.Type) func(v int) (lo, hi string) {
	switch t {
	case api.IntType:
		return w.ofInt
	case api.FloatType:
		return w.ofSingle
	}
	return w.ofDouble
}

func (w view) ofInt(v int) (lo, hi string) {
	r := w.Int(v)
	return strconv.FormatInt(r.Lo, 10), strconv.FormatInt(r.Hi, 10)
}

func (w view) ofSingle(v int) (lo, hi string) {
	return hex(api.Single, w.Float(v))
}

func (w view) ofDouble(v int) (lo, hi string) {
	return hex(api.Double, w.Float(v))
}

func hex(f api.Format, r api.FloatRange) (lo, hi string) {
	return conv.Hex(f, r.Lo), conv.Hex(f, r.Hi)
}
