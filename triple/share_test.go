package triple_test

import (
	"math"
	"slices"
	"testing"

	"palisade/api"
	"palisade/triple"
)

// isShare holds what Share tells against what is to be told.
func isShare(t *testing.T, p int, all []api.Column, role api.Role, want api.Column, lost ...int) {
	t.Helper()
	got, e := triple.Share(p, all, role, lost...)
	if !same([]api.Column{got}, []api.Column{want}) || e != api.OK {
		t.Errorf("Share(%d, %x, %d, %v) = %x, error %d, want %x", p, all, role, lost, got, e, want)
	}
}

func noShare(t *testing.T, p int, all []api.Column, role api.Role, want api.Errno, lost ...int) {
	t.Helper()
	if got, e := triple.Share(p, all, role, lost...); got != nil || e != want {
		t.Errorf("Share(%d, %x, %d, %v) = %x, error %d, want error %d", p, all, role, lost, got, e, want)
	}
}

// notOfShare is the columns that the share of a role doesn't look at.
func notOfShare(p int, role api.Role, lost []int) []int {
	l := slices.Clone(lost)
	for i, other := range theRoles {
		if other != role {
			l = append(l, p+i)
		}
	}
	return l
}

// P13.1: shares reckoned by hand.
func TestShareByHand(t *testing.T) {
	all := []api.Column{{{1}, {2}}, {{4}, {8}}, {{16}, {32}}, {{21}, {42}}, {{57}, {30}}, {{45}, {54}}}
	isShare(t, 3, all, api.RoleRow, api.Column{{5}, {10}}, 0, 1)    // 21 42 and 16 32
	isShare(t, 3, all, api.RoleRow, api.Column{{4}, {8}}, 1)        // that, and 1 2
	isShare(t, 3, all, api.RoleDiagonal, api.Column{{8}, {12}}, 1)  // 4 8, a row on: 8 12
	isShare(t, 3, all, api.RoleSlant, api.Column{{12}, {4}}, 1)     // a row back
	isShare(t, 3, all, api.RoleSlant, api.Column{{32}, {48}}, 2)    // two rows back: as one on
	isShare(t, 3, all, api.RoleDiagonal, api.Column{{48}, {16}}, 2) // two rows on
	isShare(t, 3, all, api.RoleDiagonal, api.Column{{57}, {30}}, 0, 1, 2)
	isShare(t, 3, all, api.RoleSlant, api.Column{{0}, {0}})
}

// P13.1: of any columns, whatever stands in the place of those that are not looked
// at.
func TestShare(t *testing.T) {
	for _, p := range theirs {
		all := numbered(uint64(p), p+3, p-1, 2)
		n := 0
		for many := range 4 {
			for _, l := range lists(p, many) {
				for _, role := range theRoles {
					isShare(t, p, lost(p, n, all, notOfShare(p, role, l)...), role, share(p, all, role, l...), l...)
					n++
				}
			}
		}
		for length := 1; length <= 64; length++ {
			all, role := numbered(uint64(length), p+3, p-1, length), theRoles[length%3]
			isShare(t, p, all, role, share(p, all, role, length%p), length%p)
		}
	}
}

// P13.1: nil and empty lists of lost columns mean the same.
func TestNoneLost(t *testing.T) {
	for _, p := range theirs {
		all := numbered(uint64(p), p+3, p-1, 3)
		for _, role := range theRoles {
			want := share(p, all, role)
			isShare(t, p, all, role, want)
			isShare(t, p, all, role, want, []int{}...)
			isShare(t, p, all, role, want, make([]int, 0, 5)...)
		}
	}
}

// P13.1: none of the primes, not as many columns as must be, none of the roles:
// they are told ahead of columns that are not there.
func TestNoSuchShare(t *testing.T) {
	for _, lost := range [][]int{nil, {0}, {0, 1}, {1, 0}, {-1}, {0, 1, 2}, {0, 1, 2, 3}, {math.MaxInt}} {
		for _, role := range theRoles {
			for _, p := range noPrimes {
				noShare(t, p, nil, role, api.ErrArg, lost...)
				noShare(t, p, noughts(6, 2, 1), role, api.ErrArg, lost...)
				if 0 < p && p < 40 {
					noShare(t, p, noughts(p+3, p-1, 1), role, api.ErrArg, lost...)
				}
			}
			for _, p := range theirs {
				for many := range 2*p + 4 {
					if many != p+3 {
						noShare(t, p, noughts(many, p-1, 1), role, api.ErrArg, lost...)
					}
				}
			}
		}
		for _, p := range theirs {
			for _, role := range noRoles {
				noShare(t, p, noughts(p+3, p-1, 1), role, api.ErrArg, lost...)
				noShare(t, p, make([]api.Column, p+3), role, api.ErrArg, lost...)
			}
		}
	}
}

// P13.1: columns that are not of data, one behind the other, and more than three of
// them, are told ahead of cells that may not be.
func TestShareOfNoColumns(t *testing.T) {
	for _, p := range theirs {
		long := [][]int{{0, 1, 2, 3}, {0, 1, 2, 2}, {p - 4, p - 3, p - 2, p - 1}, {0, 1, 2, p}, slices.Repeat([]int{0}, 1<<16)}
		var all []int
		for col := range p {
			all = append(all, col)
		}
		if p > 3 {
			long = append(long, all)
		}
		for many := 1; many <= 3; many++ {
			l := noLists(p, many)
			for n := 0; n < len(l); n += 1 + len(l)/1000 {
				long = append(long, l[n])
			}
		}
		for n, lost := range long {
			role := theRoles[n%3]
			noShare(t, p, noughts(p+3, p-1, 1), role, api.ErrRange, lost...)
			noShare(t, p, noughts(p+3, p-1, 65), role, api.ErrRange, lost...)
			noShare(t, p, make([]api.Column, p+3), role, api.ErrRange, lost...)
		}
	}
}

// P13.1: of each column: a cell too few or too many, none, and of another length.
// In the columns of the other roles, and in those that are lost, it does not matter.
func TestShareOfNoCells(t *testing.T) {
	for _, p := range theirs {
		all := numbered(uint64(p), p+3, p-1, 2)
		for n, lost := range [][]int{nil, {0}, {p - 1}, {0, p - 1}, {0, 1, 2}} {
			if len(lost) == p {
				continue // there is but one column then, which belongs to itself
			}
			role := theRoles[n%3]
			not, want := notOfShare(p, role, lost), share(p, all, role, lost...)
			for col := range all {
				for _, bad := range badColumns(p, col) {
					other := copied(all)
					other[col] = bad
					if slices.Contains(not, col) {
						isShare(t, p, other, role, want, lost...)
					} else {
						noShare(t, p, other, role, api.ErrArg, lost...)
					}
				}
			}
		}
		for _, role := range theRoles {
			for _, length := range []int{0, 65, 66, 1000} {
				noShare(t, p, noughts(p+3, p-1, length), role, api.ErrArg)
				noShare(t, p, noughts(p+3, p-1, length), role, api.ErrArg, 0, 1, 2)
			}
			for _, rows := range []int{0, p - 2, p} {
				noShare(t, p, noughts(p+3, rows, 1), role, api.ErrArg, 0, 1)
			}
		}
	}
}

// P13.1: where all columns of data are lost, the share is the column of the role,
// whatever the length of its cells; it may not be wrong in itself.
func TestShareOfAllLost(t *testing.T) {
	for n, role := range theRoles {
		for length := 1; length <= 64; length++ {
			all := lost(3, length, numbered(uint64(length), 6, 2, length), notOfShare(3, role, []int{0, 1, 2})...)
			isShare(t, 3, all, role, all[3+n], 0, 1, 2)
		}
		for _, bad := range []api.Column{nil, {}, {{1}}, {{1}, {2}, {3}}, {{1}, {2, 3}}, {{}, {}}, {nil, nil}, noughts(1, 2, 65)[0]} {
			all := numbered(uint64(n), 6, 2, 1)
			all[3+n] = bad
			noShare(t, 3, all, role, api.ErrArg, 0, 1, 2)
		}
	}
}

// P13.3: the shares of one lost column are that column, turned; those of several
// are these, put upon one another.
func TestSharesAreTurns(t *testing.T) {
	for _, p := range theirs {
		all := whole(p, numbered(uint64(p), p, p-1, 3))
		for many := range 4 {
			for n, l := range lists(p, many) {
				for _, role := range theRoles {
					want := noughts(1, p-1, 3)
					for _, col := range l {
						want = bothUpon(want, []api.Column{turned(p, all[col], byRole(role, col))})
					}
					isShare(t, p, lost(p, n, all, notOfShare(p, role, l)...), role, want[0], l...)
				}
			}
		}
	}
}

// P13.3: the share of two lists of columns, put upon one another, is that of both,
// put upon one another.
func TestSharesUponOneAnother(t *testing.T) {
	for _, p := range theirs {
		x, y := numbered(1, p+3, p-1, 5), numbered(2, p+3, p-1, 5)
		both := bothUpon(x, y)
		for _, l := range [][]int{nil, {1}, {0, p - 1}, {0, 1, 2}} {
			for _, role := range theRoles {
				ofX, e1 := triple.Share(p, x, role, l...)
				ofY, e2 := triple.Share(p, y, role, l...)
				if e1 != api.OK || e2 != api.OK {
					t.Fatalf("Share of the prime %d, %v: errors %d, %d", p, l, e1, e2)
				}
				isShare(t, p, both, role, bothUpon([]api.Column{ofX}, []api.Column{ofY})[0], l...)
			}
		}
	}
}
