package code

import (
	"bytes"
	"slices"

	"palisade/api"
	"palisade/cells"
	"palisade/shape"
)

// columns is columns of which it may not be known yet whether they belong together.
type columns []api.Column

func (l columns) cell(at api.At) []byte      { return l[at.Col][at.Row] }
func (l columns) put(at api.At, cell []byte) { l[at.Col][at.Row] = cell }

// length tells that of the cells, if the columns belong together.
func (l columns) length() int { return len(l[0][0]) }

// copied tells them in new memory, cells and all.
func (l columns) copied() columns {
	return each(l, func(col api.Column) api.Column { return each(col, bytes.Clone) })
}

// each tells a copy of a list that has a copy of each of its parts.
func each[L ~[]T, T any](l L, part func(T) T) L {
	other := slices.Clone(l)
	for i, x := range other {
		other[i] = part(x)
	}
	return other
}

// upon tells cells put upon one another.
func upon(l ...[]byte) []byte { return sure(cells.Xor(l...)) }

// numbers tells how many data cells a code has.
func numbers(c api.Code) int { return sure(shape.Data(c)) * sure(shape.Rows(c)) }

// filled tells columns of data that begin with bytes. How many they are is asked
// ahead, so that no memory is taken for more than there is room for.
func filled(c api.Code, b []byte, length int) columns {
	many, nought := numbers(c), sure(cells.Zero(length))
	need(len(b) <= many*length)
	l := sure(cells.Cut(b, length))
	for len(l) < many {
		l = append(l, nought)
	}
	return laid(c, l...)
}

// laid tells columns of data that have cells by their numbers. These go row by
// row, so that in each column its cells follow one another.
func laid(c api.Code, l ...[]byte) columns {
	data := make(columns, sure(shape.Data(c)))
	for n, cell := range l {
		col := sure(shape.Place(c, n)).Col
		data[col] = append(data[col], cell)
	}
	return data
}
