package fint

import "plumbline/api"

// endOf does work, and is what it is given up with: a trap, or an error; neither, if it comes to its end.
func endOf(work func()) (trap api.Trap, e api.Errno) {
	defer func() {
		switch given := recover().(type) {
		case nil:
		case api.Trap:
			trap = given
		case api.Errno:
			e = given
		default:
			// It was not given up here, so that it must not be hidden here.
			panic(given)
		}
	}()
	work()
	return api.NoTrap, api.OK
}
