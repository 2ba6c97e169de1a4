package sets

import (
	"iter"

	"palisade/api"
	"palisade/shape"
)

// code is a code under way: only asked makes it, of one that may be.
type code struct {
	api.Code
	data, cols int
}

func (c code) isCell(at place) bool {
	_, e := shape.Diagonal(c.Code, api.At(at))
	return e == api.OK
}

func (c code) isData(at place) bool { return c.isCell(at) && c.holdsData(at.Col) }
func (c code) isMade(at place) bool { return c.isCell(at) && !c.holdsData(at.Col) }

// The columns of data are ahead, that of rows is the first behind them.
func (c code) holdsData(col int) bool { return col < c.data }
func (c code) holdsRows(col int) bool { return col == c.data }

// span is the columns from one on that are ahead of another one.
func span(from, to int) []int {
	var cols []int
	for col := from; col < to; col++ {
		cols = append(cols, col)
	}
	return cols
}

// down goes down columns, one behind the other.
func (c code) down(cols ...int) iter.Seq[place] {
	return func(yield func(place) bool) {
	going:
		for _, col := range cols {
			for at := range shape.Cells(c.Code, col) {
				if !yield(place(at)) {
					break going
				}
			}
		}
	}
}

// ahead goes down the columns ahead of a cell: none is made of one behind it.
func (c code) ahead(made place) iter.Seq[place] { return c.down(span(0, made.Col)...) }

func (c code) members(made place) []place { return gathered(c.asker(made), c.ahead(made)) }

// gathered tells those that are such.
func gathered(such func(place) bool, all iter.Seq[place]) []place {
	var l []place
	for at := range all {
		if such(at) {
			l = append(l, at)
		}
	}
	return l
}

// made goes over the cells that are made, each with what asks for its members.
func (c code) made() iter.Seq2[place, func(place) bool] {
	return func(yield func(place, func(place) bool) bool) {
		for at := range c.down(span(c.data, c.cols)...) {
			if !yield(at, c.asker(at)) {
				return
			}
		}
	}
}

// having tells the cells that are made of which one is a member.
func (c code) having(at place) []place {
	var l []place
	for made, has := range c.made() {
		if has(at) {
			l = append(l, made)
		}
	}
	return l
}

// touched tells those of which a data cell is a member, and those of which the
// cell of its row is. What is among both is dropped where it is told.
func (c code) touched(at place) []place {
	return append(c.having(at), c.having(place{Col: c.data, Row: at.Row})...)
}

// lines makes each list of members when its turn comes, so that whoever keeps
// or writes on one isn't seen by another round.
func (c code) lines(yield func(api.At, []api.At) bool) {
going:
	for at, has := range c.made() {
		if !yield(api.At(at), told(gathered(has, c.ahead(at)))) {
			break going
		}
	}
}
