package code

import (
	"bytes"
	"iter"
	"slices"

	"palisade/api"
	"palisade/cells"
	"palisade/evenodd"
	"palisade/sets"
	"palisade/shape"
)

// stripe is columns of a code under way, all of them, or those of data alone:
// only asked makes it, of such as belong together. It must not outlive the call:
// the columns are the caller's.
type stripe struct {
	api.Code
	columns
}

// asked tells a stripe under way, if there are as many columns as must be.
func asked(c api.Code, many func(api.Code) (int, api.Errno), cols ...api.Column) stripe {
	need(len(cols) == sure(many(c)) && evenodd.Right(c.P, cols))
	return stripe{c, cols}
}

// encoded tells the columns of data, and behind them those that are made of them.
func (s stripe) encoded() columns {
	data := s.columns[:sure(shape.Data(s.Code))]
	return slices.Concat(data, sure(encoders()[s.Kind](s.P, data)))
}

// whole is what is answered of encoded: nothing in it is the caller's.
func (s stripe) whole() api.Stripe { return api.Stripe(s.encoded().copied()) }

// octets tells the data, by the numbers of their cells.
func (s stripe) octets() []byte {
	var l [][]byte
	gather := func(at api.At) { l = append(l, s.cell(at)) }
	for n := range numbers(s.Code) {
		gather(sure(shape.Place(s.Code, n)))
	}
	return sure(cells.Glue(l, len(l)*s.length()))
}

// unlike goes over the places of cells that are others than those that are made
// of the data.
func (s stripe) unlike() iter.Seq[api.At] {
	return func(yield func(api.At) bool) {
		made := s.encoded()
	going:
		for col := sure(shape.Data(s.Code)); col < len(made); col++ {
			for at := range shape.Cells(s.Code, col) {
				if !bytes.Equal(made.cell(at), s.cell(at)) && !yield(at) {
					break going
				}
			}
		}
	}
}

// wrong goes over the places of parity cells that are not what their members make.
func (s stripe) wrong() iter.Seq[api.At] { return seekers()[s.Kind](s) }

func (s stripe) isWhole() bool {
	for range s.wrong() {
		return false
	}
	return true
}

// change is a stripe of which a data cell became another one, and the places of
// the parity cells that changed with it.
type change struct {
	stripe api.Stripe
	hang   []api.At
}

// changed is asked for the cell ahead of the place: that error comes first.
func (s stripe) changed(at api.At, cell []byte) change {
	need(len(cell) == s.length())
	hang := sure(sets.Touched(s.Code, at))
	both, other := upon(s.cell(at), cell), s.copied()
	for _, x := range slices.Concat([]api.At{at}, hang) {
		other.put(x, upon(other.cell(x), both))
	}
	return change{api.Stripe(other), hang}
}
