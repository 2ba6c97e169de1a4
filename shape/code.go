package shape

import (
	"iter"

	"palisade/api"
	"palisade/mod"
)

// kind is what all codes of a Kind have.
type kind struct {
	short int // by so many the columns of data are fewer than the prime
	made  int // columns that are made of the data
}

var kinds = [...]kind{
	api.Evenodd: {short: 0, made: 2},
	api.Rdp:     {short: 1, made: 2},
	api.Star:    {short: 0, made: 3},
}

// The columns that are made, by how far they are behind the first of them.
const (
	ofRows = iota
	ofDiagonals
	ofSlants
)

// code is a code under way: only asked makes it, of one that may be.
type code struct {
	api.Code
	kind
}

func (c code) rows() int { return c.P - 1 }
func (c code) data() int { return c.P - c.short }
func (c code) cols() int { return c.data() + c.made }

// lost is no number of its own: each column that is made makes up for one.
func (c code) lost() int { return c.made }

func (c code) hasColumn(col int) bool { return 0 <= col && col < c.cols() }
func (c code) hasRow(row int) bool    { return 0 <= row && row < c.rows() }
func (c code) hasNumber(n int) bool   { return 0 <= n && n < c.data()*c.rows() }
func (c code) hasCell(at api.At) bool { return c.hasColumn(at.Col) && c.hasRow(at.Row) }
func (c code) hasData(at api.At) bool { return c.hasCell(at) && at.Col < c.data() }

func (c code) role(col int) api.Role {
	is := func(made int) bool { return col == c.data()+made }
	switch {
	case is(ofRows):
		return api.RoleRow
	case is(ofDiagonals):
		return api.RoleDiagonal
	case is(ofSlants):
		return api.RoleSlant
	}
	return api.RoleData
}

func (c code) place(n int) api.At     { return api.At{Col: n % c.data(), Row: n / c.data()} }
func (c code) number(at api.At) int   { return at.Row*c.data() + at.Col }
func (c code) diagonal(at api.At) int { return c.modulo(at.Col + at.Row) }
func (c code) slant(at api.At) int    { return c.modulo(at.Row - at.Col) }

// modulo needs no error: the prime of a code under way is one.
func (c code) modulo(n int) int {
	at, _ := mod.Of(c.P, n)
	return at
}

// down goes down a column. The walk has one place more than there are rows.
func (c code) down(col int) iter.Seq[api.At] {
	return func(yield func(api.At) bool) {
	going:
		for row := range mod.Walk(c.P, 0, 1) {
			if !c.hasRow(row) || !yield(api.At{Col: col, Row: row}) {
				break going
			}
		}
	}
}
