package pair

import (
	"iter"
	"slices"

	"palisade/api"
	"palisade/cells"
	"palisade/evenodd"
	"palisade/rdp"
	"palisade/shape"
)

// rest is to what the lost cells come, as what is left of all columns tells it: in
// each row, and on each diagonal but the last one. Only of makes it. Where that of
// diagonals is lost itself, what is told of these means nothing.
type rest struct {
	loss
	rows, diagonals api.Column
	nought          []byte
}

func (r rest) inRow(at api.At) []byte      { return r.rows[at.Row] }
func (r rest) onDiagonal(at api.At) []byte { return r.diagonals[r.diagonal(at)] }

// of tells what is left of all columns, where others than those of cells may be
// lost, too. EVENODD tells to what columns of cells come in rows, and on diagonals,
// there with its adjuster upon it: that is what RDP leaves out.
func (l loss) of(all []api.Column, others ...int) rest {
	cols, nought := l.filled(all, slices.Concat(l.lost, others)...)
	made := sure(evenodd.Encode(l.P, cols[:l.diagonalsAt()]))
	left := sure(rdp.Left(l.P, cols))
	diagonals := gathered(shape.Cells(l.Code, l.diagonalsAt()), func(at api.At) []byte {
		return upon(made[1][at.Row], left, cols[at.Col][at.Row])
	})
	return rest{l, made[0], diagonals, nought}
}

// filled tells all columns, and the nought that stands in the place of lost cells:
// these are not looked at. The others must belong together.
func (l loss) filled(all []api.Column, lost ...int) (cols []api.Column, nought []byte) {
	var kept []api.Column
	for col, c := range all {
		if !slices.Contains(lost, col) {
			kept = append(kept, c)
		}
	}
	need(evenodd.Right(l.P, kept), api.ErrArg)
	nought = sure(cells.Zero(len(kept[0][0])))
	cols = slices.Clone(all)
	for _, col := range lost {
		cols[col] = slices.Repeat(api.Column{nought}, l.last())
	}
	return cols, nought
}

// upon tells cells put upon one another.
func upon(l ...[]byte) []byte { return sure(cells.Xor(l...)) }

// gathered tells what is told of each that is gone over.
func gathered[A, B any](l iter.Seq[A], told func(A) B) []B {
	var all []B
	for x := range l {
		all = append(all, told(x))
	}
	return all
}

// recovered tells two lost columns. The cell ahead in an arm is the only other one
// that is lost on a cell's diagonal, or in its row, by turns; the first one is alone
// on its diagonal.
func (r rest) recovered() []api.Column {
	column, by := r.columns(), [perStep]func(api.At) []byte{r.onDiagonal, r.inRow}
	for _, arm := range r.arms() {
		told := r.nought
		for n, at := range arm {
			told = upon(told, by[n%perStep](at))
			column(at.Col)[at.Row] = told
		}
	}
	return gathered(slices.Values(r.lost), column)
}

// alone tells the one lost column of cells: it is to what the lost cells come in
// each row, as all columns of cells come to noughts there.
func (r rest) alone() api.Column { return r.rows }
