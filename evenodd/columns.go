package evenodd

import (
	"iter"
	"slices"

	"palisade/api"
	"palisade/cells"
	"palisade/mod"
)

// columns is columns under way: only asked and together make them, of such as
// belong together. They must not outlive the call: they are the caller's.
type columns struct {
	prime
	cols []api.Column
}

// asked tells columns under way, if there are as many as must be.
func asked(p int, many func(prime) int, cols []api.Column) columns {
	of := primeOf(p)
	need(len(cols) == many(of))
	return of.together(cols)
}

// row is the cells of a row.
func (c columns) row(row int) [][]byte {
	return listed(len(c.cols), func(col int) []byte { return c.cols[col][row] })
}

// diagonal goes along a diagonal of columns of data: one column to the right,
// one row up, and from the first row to the one that has no cells.
func (c columns) diagonal(from int) iter.Seq[[]byte] {
	return func(yield func([]byte) bool) {
		rows, col := c.rows(), 0
	going:
		for row := range mod.Walk(int(c.prime), from, -1) {
			if row < rows && !yield(c.cols[col][row]) {
				break going
			}
			col++
		}
	}
}

func (c columns) adjuster() []byte { return upon()(slices.Collect(c.diagonal(c.last()))...) }

// encoded tells the columns that are made of those of data.
func (c columns) encoded() []api.Column {
	put, putUponAdjuster := upon(), upon(c.adjuster())
	return []api.Column{
		listed(c.rows(), func(row int) []byte { return put(c.row(row)...) }),
		listed(c.rows(), func(row int) []byte { return putUponAdjuster(slices.Collect(c.diagonal(row))...) }),
	}
}

// areEncoded tells whether those behind the columns of data are made of them.
func (c columns) areEncoded() bool {
	data := columns{c.prime, c.cols[:c.data()]}
	return slices.EqualFunc(data.encoded(), c.cols[c.data():], func(a, b api.Column) bool {
		return cells.Same(a, b)
	})
}

// upon tells what puts cells upon one another, and upon those that it holds.
func upon(held ...[]byte) func(...[]byte) []byte {
	return func(l ...[]byte) []byte { return sure(cells.Xor(slices.Concat(held, l)...)) }
}

// listed tells as many as there shall be, each made of its number.
func listed[T any](many int, made func(int) T) []T {
	l := make([]T, many)
	for n := range many {
		l[n] = made(n)
	}
	return l
}
