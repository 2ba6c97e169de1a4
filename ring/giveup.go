package ring

import "palisade/api"

// need gives up, if what must hold doesn't: this layer's one error.
func need(holds bool) {
	if !holds {
		panic(api.ErrArg)
	}
}

// sure tells an answer of a layer below, and gives up with its error.
func sure[T any](answer T, e api.Errno) T {
	if e != api.OK {
		panic(e)
	}
	return answer
}

// answered tells what is made, or with what number the making gave up. A panic
// that is no such number would be a fault of this package: it is not hidden.
func answered[T any](made func() T) (answer T, e api.Errno) {
	defer func() {
		if r := recover(); r != nil {
			e = r.(api.Errno)
		}
	}()
	return made(), api.OK
}
