package fparse

import "plumbline/api"

// fault is what work is given up with: an error, and its place.
type fault struct {
	errno api.Errno
	at    int
}

// faultOf does work, and is what it is given up with: none, if it comes to its end.
func faultOf(work func()) (f fault) {
	defer func() {
		switch given := recover().(type) {
		case nil:
		case fault:
			f = given
		default:
			// It was not given up here, so that it must not be hidden here.
			panic(given)
		}
	}()
	work()
	return fault{}
}
