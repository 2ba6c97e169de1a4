package pair

import (
	"palisade/api"
	"palisade/mod"
	"palisade/shape"
)

// loss is the columns of cells of a code that are lost, rising: only losing makes
// one.
type loss struct {
	api.Code
	lost []int
}

func codeOf(p int) api.Code { return api.Code{Kind: api.Rdp, P: p} }

// losing tells a loss of columns of cells, each behind the one ahead of it.
func losing(p int, lost ...int) loss {
	l := loss{codeOf(p), lost}
	need(shape.Check(l.Code) == api.OK, api.ErrArg)
	for i, col := range lost {
		need(l.hasCells(col) && (i == 0 || lost[i-1] < col), api.ErrRange)
	}
	return l
}

// asked tells a loss out of all columns, if there are as many as must be.
func asked(p int, all []api.Column, lost ...int) loss {
	need(len(all) == sure(shape.Cols(codeOf(p))), api.ErrArg)
	return losing(p, lost...)
}

// hasCells tells whether a column is one of cells. It tells it of one that there
// is not, too: such a one has no role.
func (l loss) hasCells(col int) bool {
	role, _ := shape.Role(l.Code, col)
	return role == api.RoleData || role == api.RoleRow
}

// last is the row that no column has, and the diagonal that is kept nowhere.
func (l loss) last() int { return l.P - 1 }

// The columns of cells are ahead, that of diagonals is the one behind them.
func (l loss) diagonalsAt() int { return l.P }

// diagonal tells it of a place in the last row, too: of that layer 4 tells none.
func (l loss) diagonal(at api.At) int { return sure(mod.Of(l.P, at.Col+at.Row)) }

// columns tells what holds the lost columns, by their numbers, till all their
// cells are put in.
func (l loss) columns() func(col int) api.Column {
	held := map[int]api.Column{}
	for _, col := range l.lost {
		held[col] = make(api.Column, l.last())
	}
	return func(col int) api.Column { return held[col] }
}
