package triple_test

import (
	"bytes"
	"math"
	"math/rand/v2"
	"slices"

	"palisade/api"
)

// theirs is the primes by hand, so that the tests don't ask the layers below
// for them, as what is made is reckoned here by the document's words alone.
var theirs = []int{3, 5, 7, 11, 13, 17}

// theRoles is the three roles, in the order of their columns.
var theRoles = []api.Role{api.RoleRow, api.RoleDiagonal, api.RoleSlant}

// noPrimes is numbers that are no prime of a code: those near, those far off,
// and such as would be one if they were cut to fewer bits.
var noPrimes = []int{
	math.MinInt, math.MinInt + 3, -1<<32 + 3, -1 << 31, -17, -5, -3, -2, -1,
	0, 1, 2, 4, 6, 8, 9, 10, 12, 14, 15, 16, 18, 19, 23, 29, 31, 37,
	1<<8 + 3, 1<<16 + 5, 1<<31 - 1, 1<<32 + 3, 1<<32 + 17, math.MaxInt - 1, math.MaxInt,
}

// noRoles is what is none of the three roles.
var noRoles = []api.Role{
	math.MinInt, math.MinInt + 2, -1<<32 + 2, -2, -1, api.RoleNone, api.RoleData, 5, 6,
	1<<8 + 2, 1<<16 + 3, 1 << 31, 1<<32 + 2, 1<<32 + 4, math.MaxInt - 1, math.MaxInt,
}

// noData is numbers that are no column of data of a prime: those that are made
// among them.
func noData(p int) []int {
	return []int{
		math.MinInt, -1 << 32, -1<<32 + 1, -p, -2, -1, p, p + 1, p + 2, p + 3, 2*p + 1,
		1 << 8, 1 << 16, 1 << 32, 1<<32 + 1, math.MaxInt,
	}
}

// lists is all lists of so many columns of data, rising, ahead of one.
func lists(ahead, many int) [][]int {
	if many == 0 {
		return [][]int{nil}
	}
	var l [][]int
	for last := range ahead {
		for _, others := range lists(last, many-1) {
			l = append(l, append(slices.Clone(others), last))
		}
	}
	return l
}

// noLists is lists of so many columns that are not each one of data behind the one
// ahead of it.
func noLists(p, many int) [][]int {
	var l [][]int
	for _, right := range lists(p, many) {
		for i := range right {
			for _, no := range noData(p) {
				other := slices.Clone(right)
				other[i] = no
				l = append(l, other)
			}
			for j := range i {
				twice, exchanged := slices.Clone(right), slices.Clone(right)
				twice[i] = twice[j]
				exchanged[i], exchanged[j] = right[j], right[i]
				l = append(l, twice, exchanged)
			}
		}
	}
	return l
}

// each is columns whose cells are told by their places.
func each(many, rows int, cell func(col, row int) []byte) []api.Column {
	l := make([]api.Column, many)
	for col := range l {
		l[col] = make(api.Column, rows)
		for row := range l[col] {
			l[col][row] = cell(col, row)
		}
	}
	return l
}

// numbered is columns whose cells hang on the seed alone.
func numbered(seed uint64, many, rows, length int) []api.Column {
	r := rand.New(rand.NewPCG(seed, 13))
	return each(many, rows, func(int, int) []byte {
		c := make([]byte, length)
		for i := range c {
			c[i] = byte(r.Uint32())
		}
		return c
	})
}

func noughts(many, rows, length int) []api.Column {
	return each(many, rows, func(int, int) []byte { return make([]byte, length) })
}

// copied is columns with nothing in common with those they are copies of.
func copied(l []api.Column) []api.Column {
	other := make([]api.Column, len(l))
	for col, c := range l {
		for _, cell := range c {
			other[col] = append(other[col], slices.Clone(cell))
		}
	}
	return other
}

func same(a, b []api.Column) bool {
	return slices.EqualFunc(a, b, func(a, b api.Column) bool { return slices.EqualFunc(a, b, bytes.Equal) })
}

// upon is two cells put upon one another.
func upon(a, b []byte) []byte {
	c := make([]byte, len(a))
	for i := range a {
		c[i] = a[i] ^ b[i]
	}
	return c
}

func bothUpon(a, b []api.Column) []api.Column {
	return each(len(a), len(a[0]), func(col, row int) []byte { return upon(a[col][row], b[col][row]) })
}

// whole is columns of data with those that STAR makes of them behind, by the
// document's words: on the lines of which the number is P - 1 lie the adjusters.
func whole(p int, data []api.Column) []api.Column {
	length := len(data[0][0])
	all := append(copied(data), noughts(3, p-1, length)...)
	rows, lines, adjusters := all[p], all[p+1:], [2][]byte{make([]byte, length), make([]byte, length)}
	for col := range data {
		for row, c := range data[col] {
			rows[row] = upon(rows[row], c)
			for kind, line := range [2]int{(row + col) % p, (row - col + p) % p} {
				if line == p-1 {
					adjusters[kind] = upon(adjusters[kind], c)
				} else {
					lines[kind][line] = upon(lines[kind][line], c)
				}
			}
		}
	}
	for kind, adjuster := range adjusters {
		for row := range lines[kind] {
			lines[kind][row] = upon(lines[kind][row], adjuster)
		}
	}
	return all
}

// turned is a column turned by a number, by the document's words.
func turned(p int, c api.Column, by int) api.Column {
	all := noughts(1, p, len(c[0]))[0]
	for row := range c {
		all[((row+by)%p+p)%p] = c[row]
	}
	for row := range p - 1 {
		all[row] = upon(all[row], all[p-1])
	}
	return all[:p-1]
}

// byRole is by what a role turns a column, by the document's words.
func byRole(role api.Role, col int) int {
	switch role {
	case api.RoleDiagonal:
		return col
	case api.RoleSlant:
		return -col
	}
	return 0
}

// share is that of a role, by the document's words.
func share(p int, all []api.Column, role api.Role, lost ...int) api.Column {
	made := all[p : p+1]
	for i, of := range theRoles {
		if of == role {
			made = all[p+i : p+i+1]
		}
	}
	for col := range p {
		if !slices.Contains(lost, col) {
			made = bothUpon(made, []api.Column{turned(p, all[col], byRole(role, col))})
		}
	}
	return made[0]
}

// stand is what may stand in the place of a column that is lost.
func stand(p, n, length int) api.Column {
	switch n % 7 {
	case 0:
		return nil
	case 1:
		return api.Column{}
	case 2:
		return make(api.Column, p-1)
	case 3:
		return numbered(uint64(n), 1, p-1, length)[0]
	case 4:
		return numbered(uint64(n), 1, p-1, length+1)[0]
	case 5:
		return numbered(uint64(n), 1, 3*p, 70)[0]
	}
	return append(noughts(1, p-2, length)[0], []byte{1, 2, 3})
}

// lost is columns, with something else in the place of some of them.
func lost(p, n int, all []api.Column, cols ...int) []api.Column {
	other, length := copied(all), 1
	for col := range all {
		if !slices.Contains(cols, col) {
			length = len(all[col][0])
		}
	}
	for _, col := range cols {
		other[col] = stand(p, n, length)
		n++
	}
	return other
}

// badColumns is columns that don't belong to others, of cells of two bytes.
func badColumns(p, seed int) []api.Column {
	l := []api.Column{nil, {}, make(api.Column, p-1)}
	for _, rows := range []int{1, p - 2, p, 2 * (p - 1)} {
		if rows != p-1 {
			l = append(l, noughts(1, rows, 2)[0])
		}
	}
	for _, length := range []int{0, 1, 3, 65} {
		l = append(l, noughts(1, p-1, length)[0])
		for row := range p - 1 {
			c := numbered(uint64(seed), 1, p-1, 2)[0]
			c[row] = make([]byte, length)
			l = append(l, c)
		}
	}
	return l
}
