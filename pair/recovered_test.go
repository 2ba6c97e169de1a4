package pair_test

import (
	"math"
	"slices"
	"testing"

	"palisade/api"
	"palisade/pair"
)

// isPair holds what Recover tells against what is to be told.
func isPair(t *testing.T, p int, all []api.Column, a, b int, want ...api.Column) {
	t.Helper()
	if got, e := pair.Recover(p, all, a, b); len(want) != 2 || !same(got, want) || e != api.OK {
		t.Errorf("Recover(%d, %x, %d, %d) = %x, error %d, want %x", p, all, a, b, got, e, want)
	}
}

// isRow holds what Row tells against what is to be told.
func isRow(t *testing.T, p int, all []api.Column, a int, want api.Column) {
	t.Helper()
	if got, e := pair.Row(p, all, a); !same([]api.Column{got}, []api.Column{want}) || e != api.OK {
		t.Errorf("Row(%d, %x, %d) = %x, error %d, want %x", p, all, a, got, e, want)
	}
}

func noPair(t *testing.T, p int, all []api.Column, a, b int, want api.Errno) {
	t.Helper()
	if got, e := pair.Recover(p, all, a, b); got != nil || e != want {
		t.Errorf("Recover(%d, %x, %d, %d) = %x, error %d, want error %d", p, all, a, b, got, e, want)
	}
}

func noRow(t *testing.T, p int, all []api.Column, a int, want api.Errno) {
	t.Helper()
	if got, e := pair.Row(p, all, a); got != nil || e != want {
		t.Errorf("Row(%d, %x, %d) = %x, error %d, want error %d", p, all, a, got, e, want)
	}
}

// told holds all that may be lost of whole columns against them, whatever stands
// in its place.
func told(t *testing.T, p, n int, all []api.Column) {
	t.Helper()
	for _, l := range pairs(p) {
		isPair(t, p, lost(p, n, all, l[0], l[1]), l[0], l[1], all[l[0]], all[l[1]])
		n++
	}
	for a := range p {
		isRow(t, p, lost(p, n, all, a, p), a, all[a])
		n++
	}
}

// P12.2: the document's example, and others by hand: of data, and of data and rows.
func TestRecoverByHand(t *testing.T) {
	all := []api.Column{{{1}, {2}}, {{4}, {8}}, {{5}, {10}}, {{11}, {6}}}
	isPair(t, 3, []api.Column{nil, all[1], nil, all[3]}, 0, 2, api.Column{{1}, {2}}, api.Column{{5}, {10}})
	isPair(t, 3, []api.Column{nil, nil, all[2], all[3]}, 0, 1, api.Column{{1}, {2}}, api.Column{{4}, {8}})
	isPair(t, 3, []api.Column{all[0], nil, nil, all[3]}, 1, 2, api.Column{{4}, {8}}, api.Column{{5}, {10}})
	isRow(t, 3, []api.Column{nil, all[1], all[2], nil}, 0, api.Column{{1}, {2}})
	isRow(t, 3, []api.Column{all[0], nil, all[2], nil}, 1, api.Column{{4}, {8}})
	isRow(t, 3, []api.Column{all[0], all[1], nil, nil}, 2, api.Column{{5}, {10}})
	told(t, 3, 0, all)
}

// P12.2, P12.3: any data of each prime, of cells of each length, whatever stands in
// the place of what is lost.
func TestRecover(t *testing.T) {
	for _, p := range theirs {
		for n := range 7 {
			told(t, p, n, whole(p, numbered(uint64(p*10+n), p-1, p-1, n+1)))
		}
		for length := 1; length <= 64; length++ {
			all := whole(p, numbered(uint64(p*100+length), p-1, p-1, length))
			b := 1 + length%(p-1)
			a := length % b
			isPair(t, p, lost(p, length, all, a, b), a, b, all[a], all[b])
			isRow(t, p, lost(p, length, all, a, p), a, all[a])
			isRow(t, p, lost(p, length, all, b, p), b, all[b])
		}
		told(t, p, 3, noughts(p+1, p-1, 1))
		told(t, p, 3, whole(p, each(p-1, p-1, func(int, int) []byte { return []byte{0xff} })))
	}
}

// P12.2: data of one bit alone, at each place.
func TestOneBit(t *testing.T) {
	for _, p := range theirs {
		data := noughts(p-1, p-1, 2)
		for n := range (p - 1) * (p - 1) {
			c := data[n%(p-1)][n/(p-1)]
			c[n%2] = 1 << (n % 8)
			all := whole(p, data)
			for _, l := range pairs(p) {
				if l[0] == n%(p-1) || l[1] == n%(p-1) || l == [2]int{0, 1} {
					isPair(t, p, lost(p, n, all, l[0], l[1]), l[0], l[1], all[l[0]], all[l[1]])
				}
			}
			for a := range p {
				isRow(t, p, lost(p, n, all, a, p), a, all[a])
			}
			c[n%2] = 0
		}
	}
}

// P12.2: any others have lost columns that belong to them, also those of which a
// bit is another one than RDP made it.
func TestAnyOthers(t *testing.T) {
	for _, p := range theirs {
		all := numbered(uint64(p), p+1, p-1, 3)
		for _, l := range pairs(p) {
			got, e := pair.Recover(p, lost(p, 0, all, l[0], l[1]), l[0], l[1])
			if e != api.OK || len(got) != 2 {
				t.Fatalf("Recover of the prime %d, %v: %x, error %d", p, l, got, e)
			}
			other := copied(all)
			other[l[0]], other[l[1]] = got[0], got[1]
			if want := whole(p, other[:p-1]); !same(other, want) {
				t.Errorf("Recover of the prime %d, %v: %x, want %x", p, l, other, want)
			}
		}
		for a := range p {
			got, e := pair.Row(p, lost(p, 0, all, a, p), a)
			if e != api.OK || len(got) != p-1 {
				t.Fatalf("Row of the prime %d, %d: %x, error %d", p, a, got, e)
			}
			other := copied(all)
			other[a] = got
			if want := whole(p, other[:p-1]); !same(other[:p], want[:p]) {
				t.Errorf("Row of the prime %d, %d: %x, want %x", p, a, other, want)
			}
		}
	}
}

// theOnes is all columns of the prime whose cells have no bit but the lowest one.
func theOnes(p int) []api.Column {
	var l []api.Column
	for n := range 1 << (p - 1) {
		l = append(l, each(1, p-1, func(_, row int) []byte { return []byte{byte(n >> row & 1)} })[0])
	}
	return l
}

// someOnes is columns of cells of one bit that no code made.
func someOnes(p, n int) []api.Column {
	return each(p+1, p-1, func(col, row int) []byte { return []byte{byte((n + 3) >> ((col + 2*row) % 3) & 1)} })
}

// P12.2: what is told is the one list that has the others, of all that there are.
func TestTheOne(t *testing.T) {
	for _, p := range []int{3, 5} {
		for n, l := range pairs(p) {
			all := someOnes(p, n)
			var found []api.Column
			for _, a := range theOnes(p) {
				for _, b := range theOnes(p) {
					all[l[0]], all[l[1]] = a, b
					if same(whole(p, all[:p-1]), all) {
						found = append(found, a, b)
					}
				}
			}
			isPair(t, p, lost(p, n, all, l[0], l[1]), l[0], l[1], found...)
		}
		for a := range p {
			all := someOnes(p, a)
			var found []api.Column
			for _, c := range theOnes(p) {
				all[a] = c
				if same(whole(p, all[:p-1])[:p], all[:p]) {
					found = append(found, c)
				}
			}
			if len(found) != 1 {
				t.Fatalf("of the prime %d, with %d lost: %x", p, a, found)
			}
			isRow(t, p, lost(p, a, all, a, p), a, found[0])
		}
	}
}

// P12.2: what is none of the primes, whatever columns are lost.
func TestNoPrime(t *testing.T) {
	lists := [][]api.Column{nil, {}, noughts(3, 1, 1), noughts(4, 2, 1), noughts(6, 4, 1), noughts(18, 16, 1)}
	for _, p := range noPrimes {
		l := lists
		if 0 < p && p < 40 {
			l = append(slices.Clone(lists), noughts(p+1, p-1, 1), noughts(p+2, p-1, 1))
		}
		for _, all := range l {
			for _, n := range []int{math.MinInt, -1, 0, 1, p, math.MaxInt} {
				noPair(t, p, all, n, 1, api.ErrArg)
				noPair(t, p, all, 0, n, api.ErrArg)
				noRow(t, p, all, n, api.ErrArg)
			}
		}
	}
}

// P12.2: not as many columns as must be, whatever columns are lost.
func TestHowMany(t *testing.T) {
	for _, p := range theirs {
		for many := range 2*p + 4 {
			if many == p+1 {
				continue
			}
			all := noughts(many, p-1, 2)
			for _, n := range []int{math.MinInt, -1, 0, 1, p, p + 2, math.MaxInt} {
				noPair(t, p, all, n, 1, api.ErrArg)
				noPair(t, p, all, 0, n, api.ErrArg)
				noRow(t, p, all, n, api.ErrArg)
			}
		}
		noPair(t, p, nil, 0, 1, api.ErrArg)
		noRow(t, p, nil, 0, api.ErrArg)
	}
}

// P12.2: columns that are no two of cells, one ahead of the other, are told ahead
// of cells that may not be.
func TestNoColumns(t *testing.T) {
	for _, p := range theirs {
		for _, all := range [][]api.Column{noughts(p+1, p-1, 1), noughts(p+1, p, 1), noughts(p+1, p-1, 65), make([]api.Column, p+1)} {
			for _, l := range noPairs(p) {
				noPair(t, p, all, l[0], l[1], api.ErrRange)
			}
			for _, a := range noCells(p) {
				noRow(t, p, all, a, api.ErrRange)
			}
		}
	}
}

// P12.2: of each column that is not lost: a cell too few or too many, none, and of
// another length. In a column that is lost it does not matter.
func TestNoCells(t *testing.T) {
	for _, p := range theirs {
		all := whole(p, numbered(uint64(p), p-1, p-1, 2))
		for _, l := range [][2]int{{0, 1}, {0, p - 1}, {p - 2, p - 1}} {
			a, b := l[0], l[1]
			for col := range all {
				for _, bad := range badColumns(p, col) {
					other := copied(all)
					other[col] = bad
					if col == a || col == b {
						isPair(t, p, other, a, b, all[a], all[b])
					} else {
						noPair(t, p, other, a, b, api.ErrArg)
					}
					if col == b || col == p {
						isRow(t, p, other, b, all[b])
					} else {
						noRow(t, p, other, b, api.ErrArg)
					}
				}
			}
		}
	}
}

// P12.2: columns that are alike, but of cells, or of as many, that may not be.
func TestNoneRight(t *testing.T) {
	for _, p := range theirs {
		for _, length := range []int{0, 65, 66, 1000} {
			noPair(t, p, noughts(p+1, p-1, length), 0, 1, api.ErrArg)
			noRow(t, p, noughts(p+1, p-1, length), 0, api.ErrArg)
		}
		for _, rows := range []int{0, p - 2, p} {
			noPair(t, p, noughts(p+1, rows, 1), 0, 1, api.ErrArg)
			noRow(t, p, noughts(p+1, rows, 1), 0, api.ErrArg)
		}
		noPair(t, p, make([]api.Column, p+1), 0, 1, api.ErrArg)
		noRow(t, p, make([]api.Column, p+1), 0, api.ErrArg)
	}
}

// badColumns is columns that don't belong to others, of cells of two bytes.
func badColumns(p, seed int) []api.Column {
	l := []api.Column{nil, {}, make(api.Column, p-1)}
	for _, rows := range []int{1, p - 2, p, 2 * (p - 1)} {
		if rows != p-1 {
			l = append(l, noughts(1, rows, 2)[0])
		}
	}
	for _, length := range []int{0, 1, 3, 65} {
		l = append(l, noughts(1, p-1, length)[0])
		for row := range p - 1 {
			c := numbered(uint64(seed), 1, p-1, 2)[0]
			c[row] = make([]byte, length)
			l = append(l, c)
		}
	}
	return l
}

// P12.3: what is told of two lists goes upon one another as they do.
func TestUponOneAnother(t *testing.T) {
	for _, p := range theirs {
		x, y := numbered(1, p+1, p-1, 5), numbered(2, p+1, p-1, 5)
		both := bothUpon(x, y)
		for _, l := range pairs(p) {
			ofX, e1 := pair.Recover(p, x, l[0], l[1])
			ofY, e2 := pair.Recover(p, y, l[0], l[1])
			if e1 != api.OK || e2 != api.OK {
				t.Fatalf("Recover of the prime %d, %v: errors %d, %d", p, l, e1, e2)
			}
			isPair(t, p, both, l[0], l[1], bothUpon(ofX, ofY)...)
		}
		for a := range p {
			ofX, e1 := pair.Row(p, x, a)
			ofY, e2 := pair.Row(p, y, a)
			if e1 != api.OK || e2 != api.OK {
				t.Fatalf("Row of the prime %d, %d: errors %d, %d", p, a, e1, e2)
			}
			isRow(t, p, both, a, bothUpon([]api.Column{ofX}, []api.Column{ofY})[0])
		}
	}
}
