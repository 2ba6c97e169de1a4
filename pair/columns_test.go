package pair_test

import (
	"bytes"
	"math/rand/v2"
	"slices"

	"palisade/api"
)

// each is columns whose cells are told by their places.
func each(many, rows int, cell func(col, row int) []byte) []api.Column {
	l := make([]api.Column, many)
	for col := range l {
		l[col] = make(api.Column, rows)
		for row := range l[col] {
			l[col][row] = cell(col, row)
		}
	}
	return l
}

// numbered is columns whose cells hang on the seed alone.
func numbered(seed uint64, many, rows, length int) []api.Column {
	r := rand.New(rand.NewPCG(seed, 12))
	return each(many, rows, func(int, int) []byte {
		c := make([]byte, length)
		for i := range c {
			c[i] = byte(r.Uint32())
		}
		return c
	})
}

func noughts(many, rows, length int) []api.Column {
	return each(many, rows, func(int, int) []byte { return make([]byte, length) })
}

// copied is columns with nothing in common with those they are copies of.
func copied(l []api.Column) []api.Column {
	other := make([]api.Column, len(l))
	for col, c := range l {
		for _, cell := range c {
			other[col] = append(other[col], slices.Clone(cell))
		}
	}
	return other
}

func same(a, b []api.Column) bool {
	return slices.EqualFunc(a, b, func(a, b api.Column) bool { return slices.EqualFunc(a, b, bytes.Equal) })
}

// upon is two cells put upon one another.
func upon(a, b []byte) []byte {
	c := make([]byte, len(a))
	for i := range a {
		c[i] = a[i] ^ b[i]
	}
	return c
}

func bothUpon(a, b []api.Column) []api.Column {
	return each(len(a), len(a[0]), func(col, row int) []byte { return upon(a[col][row], b[col][row]) })
}

// whole is columns of data with those that RDP makes of them behind, by the
// document's words.
func whole(p int, data []api.Column) []api.Column {
	all := append(copied(data), noughts(2, p-1, len(data[0][0]))...)
	rows, diagonals := all[p-1], all[p]
	for _, col := range data {
		for row, c := range col {
			rows[row] = upon(rows[row], c)
		}
	}
	for col := range p {
		for row, c := range all[col] {
			if d := diagonal(p, api.At{Col: col, Row: row}); d < p-1 {
				diagonals[d] = upon(diagonals[d], c)
			}
		}
	}
	return all
}

// stand is what may stand in the place of a column that is lost.
func stand(p, n, length int) api.Column {
	switch n % 7 {
	case 0:
		return nil
	case 1:
		return api.Column{}
	case 2:
		return make(api.Column, p-1)
	case 3:
		return numbered(uint64(n), 1, p-1, length)[0]
	case 4:
		return numbered(uint64(n), 1, p-1, length+1)[0]
	case 5:
		return numbered(uint64(n), 1, 3*p, 70)[0]
	}
	return append(noughts(1, p-2, length)[0], []byte{1, 2, 3})
}

// lost is columns, with something else in the place of some of them.
func lost(p, n int, all []api.Column, cols ...int) []api.Column {
	other, length := copied(all), 1
	for col := range all {
		if !slices.Contains(cols, col) {
			length = len(all[col][0])
		}
	}
	for _, col := range cols {
		other[col] = stand(p, n, length)
		n++
	}
	return other
}
