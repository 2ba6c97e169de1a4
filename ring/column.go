package ring

import (
	"palisade/api"
	"palisade/cells"
	"palisade/evenodd"
	"palisade/mod"
)

// whole is the cells of a column by their rows, with that of its last row, which
// a column doesn't keep. Of a lesser prime the places behind its own stay empty.
type whole [api.MaxPrime][]byte

func (w whole) cell(row int) []byte { return w[row] }

// column is a column under way: only asked and moved make it. It must not outlive
// the call: the cells are the caller's.
type column struct {
	p int
	whole
}

// asked tells a column under way, if it may be one of the prime.
func asked(p int, c api.Column) column {
	need(evenodd.Right(p, []api.Column{c}))
	under := column{p: p}
	copy(under.whole[:], c)
	under.whole[under.last()] = sure(cells.Zero(len(c[0])))
	return under
}

func (c column) last() int { return c.p - 1 }

// place tells that of any number.
func (c column) place(n int) int { return sure(mod.Of(c.p, n)) }

// moved tells the column with each cell in the row that is so much greater. It is
// one to be settled: in its last row there may be a cell that is no nought.
func (c column) moved(by int) column {
	other, from := column{p: c.p}, 0
	for to := range mod.Walk(c.p, c.place(by), 1) {
		other.whole[to] = c.cell(from)
		from++
	}
	return other
}

// settled tells the cell of a row once that of the last row is put upon all.
func (c column) settled(row int) []byte { return upon(c.cell(row), c.cell(c.last())) }

func (c column) turned(by int) api.Column {
	return rowByRow(c.p, column.settled, c.moved(by))
}

func (c column) stretched(by int) api.Column {
	return rowByRow(c.p, column.settled, c, c.moved(by))
}

// slackened goes from the last row on: what it makes has a nought there, and each
// of its cells was put upon the one that is so many rows on. What was put upon all
// at the end is what all cells come to now: ahead of that they came to nought, as
// each cell had been put twice, and it was put upon an odd number of them.
func (c column) slackened(by int) api.Column {
	need(c.place(by) != 0)
	made, put := make(api.Column, c.last()), heap(c.cell(c.last()))
	all := upon(c.whole[:c.p]...)
	for row := range Rows(c.p, by) {
		made[row] = put(upon(c.cell(row), all))
	}
	return made
}

// summed tells columns put upon one another, if they belong together.
func summed(p int, l ...api.Column) api.Column {
	need(evenodd.Right(p, l))
	return rowByRow(p, func(c api.Column, row int) []byte { return c[row] }, l...)
}

// rowByRow tells the column that has in each row what each of a list has for it,
// put upon one another: its cells are new memory.
func rowByRow[T any](p int, cell func(of T, row int) []byte, l ...T) api.Column {
	made, together := make(api.Column, p-1), make([][]byte, len(l))
	for row := range made {
		for i, of := range l {
			together[i] = cell(of, row)
		}
		made[row] = upon(together...)
	}
	return made
}

// upon tells cells put upon one another.
func upon(l ...[]byte) []byte { return sure(cells.Xor(l...)) }

// heap tells what puts a cell upon one and all that it put there before.
func heap(held []byte) func([]byte) []byte {
	return func(cell []byte) []byte {
		held = upon(held, cell)
		return held
	}
}
