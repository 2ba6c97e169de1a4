package chain

import (
	"slices"

	"palisade/api"
	"palisade/evenodd"
	"palisade/ring"
)

// rest is what is left of all columns, with noughts in the place of lost ones: only
// of makes it. It must not outlive the call: the cells are the caller's.
type rest struct {
	loss
	cols   []api.Column
	nought []byte
}

// ofLost tells the columns of rows and of diagonals that EVENODD makes of the lost
// columns of data, with noughts in the place of the others: they are what it made
// of all, and upon it what it makes of the others. Where one of the two is lost
// itself, what is told of that one means nothing.
func (r rest) ofLost() (rows, diagonals api.Column) {
	p, behind := int(r.prime), r.cols[r.rowsAt():]
	made := sure(evenodd.Encode(p, r.cols[:r.rowsAt()]))
	return sure(ring.Sum(p, behind[0], made[0])), sure(ring.Sum(p, behind[1], made[1]))
}

// sums tells what tells to what the lost cells come on the diagonal of a place, and
// in its row: the two kinds of steps of a chain, by turns.
func (r rest) sums() [2]func(api.At) []byte {
	rows, diagonals := r.ofLost()
	adjuster := upon(slices.Concat(rows, diagonals)...)
	diagonals = append(diagonals, r.nought) // the last diagonal is the adjuster itself
	return [2]func(api.At) []byte{
		func(at api.At) []byte { return upon(diagonals[r.diagonal(at)], adjuster) },
		func(at api.At) []byte { return rows[at.Row] },
	}
}

// recovered tells two lost columns of data.
func (r rest) recovered() []api.Column {
	under := recovery{r.sums(), r.nought}
	return r.columns(gathered(r.chain(), under.cell))
}

// alone tells the one lost column of data: the column of diagonals is made of it
// by turning it by its number.
func (r rest) alone() api.Column {
	_, diagonals := r.ofLost()
	return sure(ring.Turn(int(r.prime), diagonals, -r.lost[0]))
}

// recovery is a chain of which the cells are told up to one.
type recovery struct {
	sums  [2]func(api.At) []byte
	ahead []byte
}

// cell tells the next cell of the chain: the one ahead of it is the only other one
// that is lost on its diagonal, or in its row; the first one is alone there.
func (r *recovery) cell(n int, at api.At) []byte {
	r.ahead = upon(r.ahead, r.sums[n%len(r.sums)](at))
	return r.ahead
}
