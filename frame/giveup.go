package frame

import "palisade/api"

// need gives up with an error, if what must hold doesn't.
func need(holds bool, e api.Errno) {
	if !holds {
		panic(e)
	}
}

// sure tells an answer of a layer below, and gives up with its error.
func sure[T any](answer T, e api.Errno) T {
	need(e == api.OK, e)
	return answer
}

// answered tells what is made, or with what number the making gave up. A panic
// that is no such number would be a fault of this package: it is not hidden.
func answered[T any](made func() T) (answer T, e api.Errno) {
	defer func() {
		if r := recover(); r != nil {
			e = r.(api.Errno)
		}
	}()
	return made(), api.OK
}
