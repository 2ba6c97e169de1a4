package triple

import "palisade/api"

// share is what lost columns come to, each turned by a number that hangs on its
// own.
type share struct {
	api.Column
	by func(col int) int
}

// solving is lost columns, rising, and as many shares of them; if there are three,
// they are those of rows, of diagonals and of slants.
type solving struct {
	prime
	lost   []int
	shares []share
}

// told tells the lost columns, the last one ahead: once it is known, it is out of
// the shares, and what is left is as if it had not been lost.
func (s solving) told() []api.Column {
	cols := make([]api.Column, len(s.lost))
	switch len(s.lost) {
	case 3:
		cols[2] = s.third()
		s = s.without(cols[2])
		fallthrough
	case 2:
		cols[1] = s.second()
		s = s.without(cols[1])
		fallthrough
	case 1:
		cols[0] = s.first()
	}
	return cols
}

// without tells what is left, if the last lost column is known: one share less is
// needed, too.
func (s solving) without(known api.Column) solving {
	last := len(s.lost) - 1
	shares := make([]share, last)
	for i, of := range s.shares[:last] {
		shares[i] = share{s.upon(of.Column, s.turned(known, of.by(s.lost[last]))), of.by}
	}
	return solving{s.prime, s.lost[:last], shares}
}

// back tells a share turned back, so that the first lost column lies in it as it
// is, and each other one is turned by how far it is behind the first.
func (s solving) back(i int) api.Column {
	of := s.shares[i]
	return s.turned(of.Column, -of.by(s.lost[0]))
}

// first tells the one lost column.
func (s solving) first() api.Column { return s.back(0) }

// second tells the last one of two lost columns. Of two shares, turned back and put
// upon one another, the first column is out; the second one is there twice, turned
// by unlike numbers. Turned back by the one, that is the column stretched by as much
// as the other is more.
func (s solving) second() api.Column {
	behind := s.lost[1] - s.lost[0]
	one, other := s.shares[0].by(behind), s.shares[1].by(behind)
	both := s.upon(s.back(0), s.back(1))
	return s.slackened(s.turned(both, -one), other-one)
}

// third tells the last one of three lost columns. The share of rows and another one,
// turned back and put upon one another, come to the two later columns alone, each
// stretched by how far it is behind the first one; but that of slants stretches them
// the other way, which is as much, turned back by how far it is. So they are rows and
// slants of two columns that are stretched; turned back once more, the slants are
// those that go by the columns' own numbers.
func (s solving) third() api.Column {
	turn, first, last := turns(), s.lost[0], s.lost[2]
	rows := s.upon(s.back(0), s.back(1))
	slants := s.turned(s.upon(s.back(0), s.back(2)), -first)
	stretched := solving{s.prime, s.lost[1:], []share{{rows, turn[api.RoleRow]}, {slants, turn[api.RoleSlant]}}}
	return s.slackened(stretched.second(), last-first)
}
