package evenodd

import (
	"palisade/api"
	"palisade/cells"
	"palisade/shape"
)

// prime is one of the primes: numbers become one by primeOf alone.
type prime int

func primeOf(p int) prime {
	need(shape.Check(prime(p).code()) == api.OK)
	return prime(p)
}

func (p prime) code() api.Code { return api.Code{Kind: api.Evenodd, P: int(p)} }
func (p prime) rows() int      { return sure(shape.Rows(p.code())) }
func (p prime) data() int      { return sure(shape.Data(p.code())) }
func (p prime) all() int       { return sure(shape.Cols(p.code())) }

// last is the diagonal that has no row of its own.
func (p prime) last() int { return int(p) - 1 }

// together tells columns under way; it gives up on such as don't belong
// together.
func (p prime) together(cols []api.Column) columns {
	need(len(cols) > 0)
	rows := p.rows()
	for _, col := range cols {
		need(len(col) == rows && areAlike(cols[0][0], col...))
	}
	return columns{p, cols}
}

// areAlike tells whether others are cells of the length of one that is a cell.
func areAlike(one []byte, others ...[]byte) bool {
	for _, c := range others {
		if len(c) != len(one) {
			return false
		}
	}
	return cells.Check(one) == api.OK
}
