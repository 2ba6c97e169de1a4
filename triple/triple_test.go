package triple_test

import (
	"math"
	"slices"
	"testing"

	"palisade/api"
	"palisade/triple"
)

// way is columns of data that are lost, and a role: of two the one whose column is
// lost, too, of one that whose column alone is there; of three it means nothing.
type way struct {
	lost []int
	role api.Role
}

// told is the answer of the call that there is for so many columns.
func (w way) told(p int, all []api.Column) ([]api.Column, api.Errno) {
	switch l := w.lost; len(l) {
	case 3:
		return triple.Three(p, all, l[0], l[1], l[2])
	case 2:
		return triple.Two(p, all, l[0], l[1], w.role)
	}
	c, e := triple.One(p, all, w.lost[0], w.role)
	if c == nil {
		return nil, e
	}
	return []api.Column{c}, e
}

// gone is all columns that are not looked at.
func (w way) gone(p int) []int {
	l := slices.Clone(w.lost)
	for i, role := range theRoles {
		if len(w.lost) == 2 && role == w.role || len(w.lost) == 1 && role != w.role {
			l = append(l, p+i)
		}
	}
	return l
}

// of is the lost columns themselves.
func (w way) of(all []api.Column) []api.Column {
	var l []api.Column
	for _, col := range w.lost {
		l = append(l, all[col])
	}
	return l
}

// ways is all that there are of a prime.
func ways(p int) []way {
	var l []way
	for many := 1; many <= 3; many++ {
		for _, lost := range lists(p, many) {
			if many == 3 {
				l = append(l, way{lost, api.RoleNone})
				continue
			}
			for _, role := range theRoles {
				l = append(l, way{lost, role})
			}
		}
	}
	return l
}

// firstWays is one of each kind.
func firstWays() []way {
	l := []way{{[]int{0, 1, 2}, api.RoleNone}}
	for _, role := range theRoles {
		l = append(l, way{[]int{0, 2}, role}, way{[]int{1}, role})
	}
	return l
}

// is holds what is told against what is to be told.
func (w way) is(t *testing.T, p int, all []api.Column, want ...api.Column) {
	t.Helper()
	if got, e := w.told(p, all); len(want) != len(w.lost) || !same(got, want) || e != api.OK {
		t.Errorf("of the prime %d, %x, with %v: %x, error %d, want %x", p, all, w, got, e, want)
	}
}

func (w way) isNot(t *testing.T, p int, all []api.Column, want api.Errno) {
	t.Helper()
	if got, e := w.told(p, all); got != nil || e != want {
		t.Errorf("of the prime %d, %x, with %v: %x, error %d, want error %d", p, all, w, got, e, want)
	}
}

// theLost holds all that may be lost of whole columns against them, whatever stands
// in its place.
func theLost(t *testing.T, p, n int, all []api.Column) {
	t.Helper()
	for i, w := range ways(p) {
		w.is(t, p, lost(p, n+i, all, w.gone(p)...), w.of(all)...)
	}
}

// P13.2: the document's examples, and all others of their columns.
func TestByHand(t *testing.T) {
	all := []api.Column{{{1}, {2}}, {{4}, {8}}, {{16}, {32}}, {{21}, {42}}, {{57}, {30}}, {{45}, {54}}}
	way{[]int{0, 1, 2}, 0}.is(t, 3, []api.Column{nil, nil, nil, all[3], all[4], all[5]}, all[:3]...)
	way{[]int{0, 2}, api.RoleRow}.is(t, 3, []api.Column{nil, all[1], nil, nil, all[4], all[5]}, all[0], all[2])
	way{[]int{1}, api.RoleSlant}.is(t, 3, []api.Column{all[0], nil, all[2], nil, nil, all[5]}, all[1])
	way{[]int{0, 2, 1}, 0}.isNot(t, 3, all, api.ErrRange)
	way{[]int{0}, api.RoleData}.isNot(t, 3, all, api.ErrArg)
	theLost(t, 3, 0, all)
}

// P13.2, P13.3: any data of each prime, whatever stands in the place of what is
// lost.
func TestAnyData(t *testing.T) {
	for _, p := range theirs {
		for n := range max(1, 8-p) {
			theLost(t, p, n, whole(p, numbered(uint64(p*10+n), p, p-1, n+2)))
		}
	}
	theLost(t, 7, 3, noughts(10, 6, 1))
	theLost(t, 7, 3, whole(7, each(7, 6, func(int, int) []byte { return []byte{0xff} })))
}

// P13.2: cells of each length.
func TestLengths(t *testing.T) {
	for _, p := range theirs {
		all := ways(p)
		for length := 1; length <= 64; length++ {
			cols := whole(p, numbered(uint64(p*100+length), p, p-1, length))
			w := all[len(all)*length/65]
			w.is(t, p, lost(p, length, cols, w.gone(p)...), w.of(cols)...)
		}
		for _, w := range firstWays() {
			cols := whole(p, numbered(uint64(p), p, p-1, 64))
			w.is(t, p, lost(p, 0, cols, w.gone(p)...), w.of(cols)...)
		}
	}
}

// P13.2: data of one bit alone, at each place.
func TestOneBit(t *testing.T) {
	for _, p := range []int{3, 5, 7} {
		data := noughts(p, p-1, 2)
		for n := range p * (p - 1) {
			c := data[n%p][n/p]
			c[n%2] = 1 << (n % 8)
			theLost(t, p, n, whole(p, data))
			c[n%2] = 0
		}
	}
}

// P13.2: any others have lost columns that belong to them, also those of which a
// bit is another one than STAR made it.
func TestAnyOthers(t *testing.T) {
	for _, p := range theirs {
		all := numbered(uint64(p), p+3, p-1, 3)
		for n, w := range ways(p) {
			gone := w.gone(p)
			got, e := w.told(p, lost(p, n, all, gone...))
			if e != api.OK || len(got) != len(w.lost) {
				t.Fatalf("of the prime %d, with %v: %x, error %d", p, w, got, e)
			}
			other := copied(all)
			for i, col := range w.lost {
				other[col] = got[i]
			}
			if !belong(p, other, gone) {
				t.Errorf("of the prime %d, with %v: %x, which does not belong to the others", p, w, got)
			}
		}
	}
}

// theOnes is all columns of the prime whose cells have no bit but the lowest one.
func theOnes(p int) []api.Column {
	var l []api.Column
	for n := range 1 << (p - 1) {
		l = append(l, each(1, p-1, func(_, row int) []byte { return []byte{byte(n >> row & 1)} })[0])
	}
	return l
}

// belong tells whether those of the columns that are made which are not gone are as
// STAR makes them of those of data.
func belong(p int, all []api.Column, gone []int) bool {
	made := whole(p, all[:p])
	for col := range made {
		if !slices.Contains(gone, col) && !same(made[col:col+1], all[col:col+1]) {
			return false
		}
	}
	return true
}

// P13.2: what is told is the one list that has the others, of all that there are.
func TestTheOne(t *testing.T) {
	for _, p := range []int{3, 5} {
		ones := theOnes(p)
		for n, w := range ways(p) {
			all := each(p+3, p-1, func(col, row int) []byte { return []byte{byte((n + 3) >> ((col + 2*row) % 3) & 1)} })
			gone := w.gone(p)
			handed := lost(p, n, all, gone...)
			var found []api.Column
			for i := range 1 << ((p - 1) * len(w.lost)) {
				for at, col := range w.lost {
					all[col] = ones[i>>((p-1)*at)%len(ones)]
				}
				if belong(p, all, gone) {
					found = append(found, w.of(all)...)
				}
			}
			w.is(t, p, handed, found...)
		}
	}
}

// P13.2: what is none of the primes, whatever columns are lost.
func TestNoPrime(t *testing.T) {
	right := [][]api.Column{nil, {}, noughts(5, 1, 1), noughts(6, 2, 1), noughts(8, 4, 1), noughts(20, 16, 1)}
	for _, p := range noPrimes {
		l := slices.Clone(right)
		if 0 < p && p < 40 {
			l = append(l, noughts(p+3, p-1, 1), noughts(p+2, p-1, 1))
		}
		for _, all := range l {
			for _, w := range firstWays() {
				w.isNot(t, p, all, api.ErrArg)
				for i := range w.lost {
					for _, n := range []int{math.MinInt, -1, 0, 1, p, math.MaxInt} {
						other := way{slices.Clone(w.lost), w.role}
						other.lost[i] = n
						other.isNot(t, p, all, api.ErrArg)
					}
				}
			}
		}
	}
}

// P13.2: not as many columns as must be, whatever columns are lost.
func TestHowMany(t *testing.T) {
	for _, p := range theirs {
		for many := range 2*p + 4 {
			if many == p+3 {
				continue
			}
			all := noughts(many, p-1, 2)
			for _, w := range firstWays() {
				w.isNot(t, p, all, api.ErrArg)
				way{slices.Repeat([]int{p}, len(w.lost)), w.role}.isNot(t, p, all, api.ErrArg)
			}
		}
		for _, w := range firstWays() {
			w.isNot(t, p, nil, api.ErrArg)
		}
	}
}

// P13.2: roles that are none of the three are told ahead of columns that are not
// there.
func TestNoRole(t *testing.T) {
	for _, p := range theirs {
		for _, all := range [][]api.Column{noughts(p+3, p-1, 1), noughts(p+3, p, 1), make([]api.Column, p+3)} {
			for _, role := range noRoles {
				for _, l := range [][]int{{0, 1}, {1, 0}, {0, p}, {-1, 0}, {0}, {p - 1}, {p}, {-1}, {math.MaxInt}} {
					way{l, role}.isNot(t, p, all, api.ErrArg)
				}
			}
		}
	}
}

// P13.2: columns that are not of data, one behind the other, are told ahead of
// cells that may not be.
func TestNoColumns(t *testing.T) {
	for _, p := range theirs {
		wrong := [][]api.Column{noughts(p+3, p-1, 1), noughts(p+3, p, 1), noughts(p+3, p-1, 65), make([]api.Column, p+3)}
		for many := 1; many <= 3; many++ {
			l := noLists(p, many)
			for n := 0; n < len(l); n += 1 + len(l)/1000 {
				for i, all := range wrong {
					way{l[n], theRoles[(n+i)%3]}.isNot(t, p, all, api.ErrRange)
				}
			}
		}
	}
}

// P13.2: of each column that is not lost: a cell too few or too many, none, and of
// another length. In a column that is lost it does not matter.
func TestNoCells(t *testing.T) {
	for _, p := range theirs {
		all := whole(p, numbered(uint64(p), p, p-1, 2))
		for _, w := range firstWays() {
			gone := w.gone(p)
			for col := range all {
				for _, bad := range badColumns(p, col) {
					other := copied(all)
					other[col] = bad
					if slices.Contains(gone, col) {
						w.is(t, p, other, w.of(all)...)
					} else {
						w.isNot(t, p, other, api.ErrArg)
					}
				}
			}
		}
	}
}

// P13.2: columns that are alike, but of cells, or of as many, that may not be.
func TestNoneRight(t *testing.T) {
	for _, p := range theirs {
		for _, w := range firstWays() {
			for _, length := range []int{0, 65, 66, 1000} {
				w.isNot(t, p, noughts(p+3, p-1, length), api.ErrArg)
			}
			for _, rows := range []int{0, p - 2, p} {
				w.isNot(t, p, noughts(p+3, rows, 1), api.ErrArg)
			}
			w.isNot(t, p, make([]api.Column, p+3), api.ErrArg)
		}
	}
}

// P13.3: what is told of two lists goes upon one another as they do.
func TestUponOneAnother(t *testing.T) {
	for _, p := range theirs {
		x, y := numbered(1, p+3, p-1, 5), numbered(2, p+3, p-1, 5)
		both := bothUpon(x, y)
		for _, w := range ways(p) {
			ofX, e1 := w.told(p, x)
			ofY, e2 := w.told(p, y)
			if e1 != api.OK || e2 != api.OK {
				t.Fatalf("of the prime %d, with %v: errors %d, %d", p, w, e1, e2)
			}
			w.is(t, p, both, bothUpon(ofX, ofY)...)
		}
	}
}
