package decode

import (
	"iter"
	"slices"

	"palisade/api"
	"palisade/shape"
)

// loss is a code of which columns are lost: only losing makes one.
type loss struct {
	api.Code
	lost map[int]struct{}
}

// losing tells a loss, if the code has all of the columns, and none comes twice.
func losing(c api.Code, lost ...int) loss {
	l, cols := loss{c, map[int]struct{}{}}, sure(shape.Cols(c))
	for _, col := range lost {
		need(0 <= col && col < cols && !l.has(col), api.ErrRange)
		l.lost[col] = struct{}{}
	}
	return l
}

// few tells the loss, if the code can lose so many.
func (l loss) few() loss {
	need(len(l.lost) <= sure(shape.Lost(l.Code)), api.ErrMany)
	return l
}

// has tells whether a column is lost.
func (l loss) has(col int) bool {
	_, lost := l.lost[col]
	return lost
}

// made is where the columns that are made begin: with that of rows.
func (l loss) made() int { return sure(shape.Data(l.Code)) }

// data tells the lost columns of data, rising: a map has no order.
func (l loss) data() []int {
	var cols []int
	for col := range l.made() {
		if l.has(col) {
			cols = append(cols, col)
		}
	}
	return cols
}

// roles tells what those of the columns that are made are that are lost, and what
// those that are left.
func (l loss) roles() (lost, left []api.Role) {
	for col := l.made(); col < sure(shape.Cols(l.Code)); col++ {
		role := sure(shape.Role(l.Code, col))
		if l.has(col) {
			lost = append(lost, role)
		} else {
			left = append(left, role)
		}
	}
	return lost, left
}

// lists goes over the lists of so many columns that begin with those ahead: each is
// new memory. A column behind which there are too few others begins none.
func lists(cols, many int, ahead ...int) iter.Seq[[]int] {
	return func(yield func([]int) bool) {
		more, from := many-len(ahead), 0
		if more == 0 {
			yield(ahead)
			return
		}
		if len(ahead) > 0 {
			from = ahead[len(ahead)-1] + 1
		}
	going:
		for col := from; col <= cols-more; col++ {
			for list := range lists(cols, many, slices.Concat(ahead, []int{col})...) {
				if !yield(list) {
					break going
				}
			}
		}
	}
}
