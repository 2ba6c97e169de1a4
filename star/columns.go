package star

import (
	"bytes"
	"iter"
	"slices"

	"palisade/api"
	"palisade/cells"
	"palisade/evenodd"
	"palisade/shape"
)

// list is columns of which it may not be known yet whether they belong together.
type list []api.Column

func (l list) cell(at api.At) []byte { return l[at.Col][at.Row] }

// over tells the columns turned over, cells and all in new memory.
func (l list) over() []api.Column {
	other := turned(l)
	for i, col := range other {
		other[i] = copied(col)
	}
	return other
}

// columns is columns under way: only asked makes it, of such as belong together.
// They must not outlive the call: they are the caller's.
type columns struct {
	api.Code
	list
}

// asked tells columns under way, if there are as many as must be.
func asked(p int, many func(api.Code) (int, api.Errno), cols []api.Column) columns {
	code := api.Code{Kind: api.Star, P: p}
	need(len(cols) == sure(many(code)) && evenodd.Right(p, cols))
	return columns{code, cols}
}

// last is the slant that has no row of its own.
func (c columns) last() int { return c.P - 1 }

func (c columns) slant(at api.At) int { return sure(shape.Slant(c.Code, at)) }

// gathered tells the cells of columns of data by where they belong. Of a lesser
// prime the places behind its own stay empty.
func (c columns) gathered(belongs func(columns, api.At) int) [api.MaxPrime][][]byte {
	var by [api.MaxPrime][][]byte
	for col := range c.list {
		for at := range shape.Cells(c.Code, col) {
			n := belongs(c, at)
			by[n] = append(by[n], c.cell(at))
		}
	}
	return by
}

// sums tells what holds the sums of all slants, and tells a copy of one: it may
// outlive the call, as it holds none of the columns.
func (c columns) sums() func(slant int) []byte {
	var held [api.MaxPrime][]byte
	by := c.gathered(columns.slant)
	for slant := range c.P {
		held[slant] = upon(by[slant]...)
	}
	return func(slant int) []byte { return bytes.Clone(held[slant]) }
}

// slants goes over the slants of a prime, each with its sum.
func slants(p int, sum func(int) []byte) iter.Seq2[int, []byte] {
	return func(yield func(int, []byte) bool) {
		for slant := range p {
			if !yield(slant, sum(slant)) {
				return
			}
		}
	}
}

func (c columns) adjuster() []byte { return c.sums()(c.last()) }

// slanting tells the column of slants.
func (c columns) slanting() api.Column {
	var made api.Column
	sum := c.sums()
	adjuster := sum(c.last())
going:
	for slant, cell := range slants(c.P, sum) {
		if slant == c.last() {
			break going
		}
		made = append(made, upon(cell, adjuster))
	}
	return made
}

// encoded tells the columns that are made of those of data.
func (c columns) encoded() []api.Column {
	return append(sure(evenodd.Encode(c.P, c.list)), c.slanting())
}

// areEncoded tells whether those behind the columns of data are made of them.
func (c columns) areEncoded() bool {
	many := sure(shape.Data(c.Code))
	data := columns{c.Code, c.list[:many]}
	return slices.EqualFunc(data.encoded(), c.list[many:], func(a, b api.Column) bool {
		return cells.Same(a, b)
	})
}

// upon tells cells put upon one another.
func upon(l ...[]byte) []byte { return sure(cells.Xor(l...)) }

// copied tells a column in new memory.
func copied(col api.Column) api.Column {
	other := make(api.Column, len(col))
	for row, cell := range col {
		other[row] = bytes.Clone(cell)
	}
	return other
}

// turned tells a list of which the first one stays, and the others stand the
// other way round. There must be a first one.
func turned[T any](l []T) []T {
	other := slices.Clone(l)
	slices.Reverse(other[1:])
	return other
}
