package chain

import (
	"iter"
	"slices"

	"palisade/api"
	"palisade/cells"
	"palisade/evenodd"
	"palisade/ring"
)

// loss is the columns of data of a prime that are lost, rising: only losing makes
// one.
type loss struct {
	prime
	lost []int
}

// asked tells a loss out of all columns, if there are as many as must be.
func asked(p int, all []api.Column, lost ...int) loss {
	of := primeOf(p)
	need(len(all) == of.cols(), api.ErrArg)
	return of.losing(lost...)
}

// chain goes from cell to cell of two lost columns. A cell of b on a diagonal is as
// many rows further than that of a on it as b is to the left of a; and the diagonal
// that a lacks is that of its last row. So b's cells are in the rows of steps from
// there on, each with a's behind it.
func (l loss) chain() iter.Seq2[int, api.At] {
	a, b := l.lost[0], l.lost[1]
	return func(yield func(int, api.At) bool) {
		n := 0
	going:
		for row := range ring.Rows(int(l.prime), a-b) {
			for _, col := range [2]int{b, a} {
				if !yield(n, api.At{Col: col, Row: row}) {
					break going
				}
				n++
			}
		}
	}
}

// gathered tells what is told of each step of a chain.
func gathered[T any](chain iter.Seq2[int, api.At], told func(int, api.At) T) []T {
	var l []T
	for n, at := range chain {
		l = append(l, told(n, at))
	}
	return l
}

func (l loss) order() []api.At {
	return gathered(l.chain(), func(_ int, at api.At) api.At { return at })
}

// columns tells the lost columns out of the cells of their chain.
func (l loss) columns(told [][]byte) []api.Column {
	cols := make([]api.Column, len(l.lost))
	for i := range cols {
		cols[i] = make(api.Column, l.last())
	}
	for n, at := range l.chain() {
		cols[slices.Index(l.lost, at.Col)][at.Row] = told[n]
	}
	return cols
}

// upon tells cells put upon one another.
func upon(l ...[]byte) []byte { return sure(cells.Xor(l...)) }

// of tells what is left of all columns, where others than those of data may be
// lost, too. What is lost is not looked at: noughts stand for it.
func (l loss) of(all []api.Column, others ...int) rest {
	lost := slices.Concat(l.lost, others)
	var kept []api.Column
	for col, c := range all {
		if !slices.Contains(lost, col) {
			kept = append(kept, c)
		}
	}
	need(evenodd.Right(int(l.prime), kept), api.ErrArg)
	nought := sure(cells.Zero(len(kept[0][0])))
	noughts, cols := slices.Repeat(api.Column{nought}, l.last()), slices.Clone(all)
	for _, col := range lost {
		cols[col] = noughts
	}
	return rest{l, cols, nought}
}
