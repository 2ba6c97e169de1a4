package sets

import (
	"palisade/api"
	"palisade/shape"
)

// asked tells a code under way, if it may be.
func asked(c api.Code) (code, api.Errno) {
	data, e := shape.Data(c)
	if e != api.OK {
		return code{}, e
	}
	cols, e := shape.Cols(c)
	return code{c, data, cols}, e
}

// answered tells the places that a place has, if it is of a cell that has such.
func answered(c api.Code, has func(code, place) bool, tell func(code, place) []place, of api.At) ([]api.At, api.Errno) {
	under, e := asked(c)
	if e != api.OK {
		goto refused
	}
	if !has(under, place(of)) {
		e = api.ErrRange
		goto refused
	}
	return told(tell(under, place(of))), api.OK
refused:
	return nil, e
}
