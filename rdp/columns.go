package rdp

import (
	"bytes"
	"iter"
	"slices"

	"palisade/api"
	"palisade/cells"
	"palisade/evenodd"
	"palisade/sets"
)

// columns is columns under way: only asked and askedAll make it, of such as
// belong together. They must not outlive the call: they are the caller's.
type columns struct {
	api.Code
	cols []api.Column
}

// asked tells columns of data under way.
func asked(p int, data []api.Column) columns { return asMany(p, p-1, data) }

// askedAll tells columns of data, of rows and of diagonals under way.
func askedAll(p int, all []api.Column) columns { return asMany(p, p+1, all) }

func asMany(p, many int, cols []api.Column) columns {
	need(evenodd.Right(p, cols) && len(cols) == many)
	return columns{api.Code{Kind: api.Rdp, P: p}, cols}
}

// The columns of data are ahead, that of rows is the first behind them.
func (c columns) rowsAt() int      { return c.P - 1 }
func (c columns) diagonalsAt() int { return c.P }

func (c columns) cell(at api.At) []byte { return c.cols[at.Col][at.Row] }

// roles tells what makes the columns behind those of data, in their order: that
// of diagonals is made of that of rows, too.
func roles() [2]func(columns) api.Column {
	return [2]func(columns) api.Column{columns.rows, columns.diagonals}
}

func (c columns) rows() api.Column      { return c.made(c.rowsAt()) }
func (c columns) diagonals() api.Column { return c.made(c.diagonalsAt()) }

// made tells a column that is made of those ahead of it.
func (c columns) made(col int) api.Column {
	return each(c.members(col), func(l []api.At) []byte { return c.upon(l...) })
}

// members tells, row by row, the members of a column's cells.
func (c columns) members(col int) [][]api.At {
	var l [][]api.At
	for row := range c.P - 1 {
		l = append(l, sure(sets.Members(c.Code, api.At{Col: col, Row: row})))
	}
	return l
}

// upon tells the cells at places, put upon one another.
func (c columns) upon(places ...api.At) []byte { return sure(cells.Xor(each(places, c.cell)...)) }

// each tells a cell for each of a list.
func each[T any](l []T, cell func(T) []byte) [][]byte {
	made := make([][]byte, len(l))
	for i, x := range l {
		made[i] = cell(x)
	}
	return made
}

// encoded tells the columns that are made of those of data.
func (c columns) encoded() []api.Column {
	var l []api.Column
	for _, role := range roles() {
		l = append(l, role(c.with(l)))
	}
	return l
}

// with tells columns with others behind them: not in the room behind them, which
// is the caller's.
func (c columns) with(others []api.Column) columns {
	return columns{c.Code, slices.Concat(c.cols, others)}
}

// left tells what is left out: what EVENODD's adjuster is of as many columns, of
// which that of rows is the last one here.
func (c columns) left() []byte { return sure(evenodd.Adjuster(c.P, c.cols[:c.diagonalsAt()])) }

// wrong goes over the places of cells that are not as they are made of the
// columns that are there.
func (c columns) wrong() iter.Seq[api.At] {
	return func(yield func(api.At) bool) {
	going:
		for i, role := range roles() {
			col := c.rowsAt() + i
			for row, cell := range role(c) {
				at := api.At{Col: col, Row: row}
				if !bytes.Equal(cell, c.cell(at)) && !yield(at) {
					break going
				}
			}
		}
	}
}

func (c columns) areEncoded() bool {
	for range c.wrong() {
		return false
	}
	return true
}
