package chain

import (
	"palisade/api"
	"palisade/shape"
)

// prime is one of the primes: numbers become one by primeOf alone.
type prime int

func primeOf(p int) prime {
	need(shape.Check(prime(p).code()) == api.OK, api.ErrArg)
	return prime(p)
}

func (p prime) code() api.Code { return api.Code{Kind: api.Evenodd, P: int(p)} }
func (p prime) cols() int      { return sure(shape.Cols(p.code())) }

// last is the row that no column has, and the diagonal that no row keeps.
func (p prime) last() int { return int(p) - 1 }

// The columns of data are ahead, that of rows is the first behind them.
func (p prime) rowsAt() int { return int(p) }

func (p prime) diagonal(at api.At) int { return sure(shape.Diagonal(p.code(), at)) }

// isData tells it of a column that there is not, too: such a one has no role.
func (p prime) isData(col int) bool {
	role, _ := shape.Role(p.code(), col)
	return role == api.RoleData
}

// losing tells a loss of columns of data, each behind the one ahead of it.
func (p prime) losing(lost ...int) loss {
	for i, col := range lost {
		need(p.isData(col) && (i == 0 || lost[i-1] < col), api.ErrRange)
	}
	return loss{p, lost}
}
