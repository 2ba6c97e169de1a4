package pair

import (
	"iter"
	"slices"

	"palisade/api"
	"palisade/mod"
)

// perStep is how many cells of an arm are in one row: one of each column.
const perStep = 2

// arm goes from cell to cell of two lost columns. The cell of y on a diagonal is as
// many rows further than that of x on it as y is to the left of x. The walk begins
// in the last row, in which x has no cell, but the diagonal that it lacks. What y has
// need not be asked: of the diagonals that x comes to, the one that y lacks is behind
// all others, so that P - 1 has come by then, and the arm has ended.
func (l loss) arm(x, y int) iter.Seq[api.At] {
	return func(yield func(api.At) bool) {
	going:
		for row := range mod.Walk(l.P, l.last(), x-y) {
			ofY, ofX := api.At{Col: y, Row: row}, api.At{Col: x, Row: row}
			for _, at := range [perStep]api.At{ofY, ofX} {
				if row != l.last() && !yield(at) {
					break going
				}
			}
			if l.diagonal(ofX) == l.last() {
				break going
			}
		}
	}
}

// arms tells that of the first lost column and the second, and that of the second
// and the first.
func (l loss) arms() [2][]api.At {
	a, b := l.lost[0], l.lost[1]
	return [2][]api.At{slices.Collect(l.arm(a, b)), slices.Collect(l.arm(b, a))}
}

func (l loss) order() []api.At {
	arms := l.arms()
	return sideBySide(arms[0], arms[1])
}

// sideBySide lays two arms side by side: behind each step of the one that of the
// other, as long as there are some.
func sideBySide(one, other []api.At) []api.At {
	var l []api.At
	for n := 0; n < max(len(one), len(other)); n += perStep {
		l = append(l, append(step(one, n), step(other, n)...)...)
	}
	return l
}

// step tells the step of an arm that begins at a number, behind its end an empty
// one. It is cut off from the room behind it, so that what is laid beside it doesn't
// run over into the next one.
func step(arm []api.At, n int) []api.At {
	from, to := min(n, len(arm)), min(n+perStep, len(arm))
	return arm[from:to:to]
}
