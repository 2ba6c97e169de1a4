package triple

import (
	"iter"
	"slices"

	"palisade/api"
	"palisade/evenodd"
	"palisade/mod"
)

// most is how many columns STAR makes of those of data, and how many it can lose.
const most = 3

// loss is all columns of a prime, of which some columns of data are lost, and the
// roles whose columns are there: only asked makes one. It must not outlive the
// call: the columns are the caller's.
type loss struct {
	prime
	all   []api.Column
	roles []api.Role
	lost  []int
}

// asked tells a loss, if it may be one.
func asked(p int, all []api.Column, roles []api.Role, lost ...int) loss {
	l := loss{prime(p), all, roles, lost}
	inOrder(l, loss.known, loss.rising, loss.together)
	return l
}

// known tells what is wrong with the prime, the number of columns, the roles.
func (l loss) known() api.Errno {
	wrong := mod.Check(int(l.prime)) != api.OK || len(l.all) != int(l.prime)+most
	if wrong || slices.ContainsFunc(l.roles, isOther) {
		return api.ErrArg
	}
	return api.OK
}

// rising tells what is wrong with the numbers of the lost columns.
func (l loss) rising() api.Errno {
	ahead := -1
	for i, col := range l.lost {
		if i == most || col <= ahead || col >= int(l.prime) {
			return api.ErrRange
		}
		ahead = col
	}
	return api.OK
}

// together tells what is wrong with the columns that are looked at.
func (l loss) together() api.Errno {
	var there []api.Column
	for col := range l.kept() {
		there = append(there, l.all[col])
	}
	for _, role := range l.roles {
		there = append(there, l.column(role))
	}
	if !evenodd.Right(int(l.prime), there) {
		return api.ErrArg
	}
	return api.OK
}

// kept goes over the columns of data that are not lost.
func (l loss) kept() iter.Seq[int] {
	return func(yield func(int) bool) {
	going:
		for col := range mod.Walk(int(l.prime), 0, 1) {
			if !slices.Contains(l.lost, col) && !yield(col) {
				break going
			}
		}
	}
}

// column tells that of a role: it is behind those of data.
func (l loss) column(role api.Role) api.Column { return l.all[int(l.prime)+int(role-api.RoleRow)] }

// share tells that of a role, which is new memory.
func (l loss) share(role api.Role) share {
	by, all := turns()[role], []api.Column{l.column(role)}
	put := func(col int) { all = append(all, l.turned(l.all[col], by(col))) }
	for col := range l.kept() {
		put(col)
	}
	return share{l.upon(all...), by}
}

// told tells the lost columns, of which there are as many as roles.
func (l loss) told() []api.Column {
	var shares []share
	for _, role := range l.roles {
		shares = append(shares, l.share(role))
	}
	return solving{l.prime, l.lost, shares}.told()
}
