package ring_test

import (
	"bytes"
	"slices"
	"testing"

	"palisade/api"
	"palisade/ring"
)

// roomy is columns whose lists and cells have something in the room behind them:
// the one that follows. unchanged tells whether all of it still stands there.
func roomy(p, many, length int) (cols []api.Column, unchanged func() bool) {
	memory := numbered(uint64(p), 1, (many*(p-1)+1)*length)[0]
	cells := make(api.Column, many*(p-1)+1)
	for n := range cells {
		cells[n] = memory[n*length : (n+1)*length]
	}
	var all []api.Column
	for col := range many {
		all = append(all, cells[col*(p-1):(col+1)*(p-1)])
	}
	all = append(all, cells[many*(p-1):], cells, nil, cells)
	wasMemory, were := slices.Clone(memory), each(all)
	return all[:many], func() bool {
		return bytes.Equal(memory, wasMemory) && slices.EqualFunc(all, were, same)
	}
}

// each is copies of columns.
func each(l []api.Column) []api.Column {
	var other []api.Column
	for _, c := range l {
		other = append(other, copied(c))
	}
	return other
}

// P10.1, and the rules: what is handed in is not changed, spare room included.
func TestHandedIn(t *testing.T) {
	for _, p := range theirs {
		l, unchanged := roomy(p, 5, 3)
		for by := range 2 * p {
			asMade(t, p, l[by%5], by)
		}
		for many := 1; many <= 5; many++ {
			if _, e := ring.Sum(p, l[:many]...); e != api.OK {
				t.Errorf("Sum of %d columns of the prime %d: error %d", many, p, e)
			}
		}
		noSum(t, p, l[:7]...)
		refused(t, p, l[0][:p])
		if !unchanged() {
			t.Errorf("what was handed in of the prime %d is changed", p)
		}
	}
}

// scribbled writes on a cell, and on the room behind it.
func scribbled(c []byte) {
	c = c[:cap(c)]
	for i := range c {
		c[i] ^= 0xff
	}
}

// newMemory holds the answers of a call against what is done to one cell after
// another of one of them: it must be seen in that one alone.
func newMemory(t *testing.T, name string, c api.Column, call func() (api.Column, api.Errno)) {
	t.Helper()
	of, was := sure(t), copied(c)
	want := copied(of(call()))
	for row := range want {
		got, other := of(call()), of(call())
		scribbledOn := copied(want)
		scribbled(got[row])
		scribbled(scribbledOn[row][:len(want[row]):len(want[row])])
		_ = append(got, []byte{1})
		if !same(got, scribbledOn) || !same(other, want) || !same(c, was) {
			t.Errorf("%s: what is done to the cell %d of an answer is seen", name, row)
		}
		clear(got[:cap(got)])
		if !same(other, want) || !same(c, was) || !same(of(call()), want) {
			t.Errorf("%s: what is done to an answer is seen", name)
		}
	}
}

// P10.1, and the rules: answers are new memory, room behind them included, also
// where they are as what was handed in, and where the cells of that are one piece.
func TestNewMemory(t *testing.T) {
	for _, p := range theirs {
		piece := []byte{1, 0x80, 3}
		for _, c := range []api.Column{numbered(uint64(p), p-1, 3), column(p-1, func(int) []byte { return piece })} {
			for _, row := range calls {
				for by := range p + 1 {
					if row.name != "Slacken" || by%p != 0 {
						newMemory(t, row.name, c, func() (api.Column, api.Errno) { return row.call(p, c, by) })
					}
				}
			}
			newMemory(t, "Sum of one", c, func() (api.Column, api.Errno) { return ring.Sum(p, c) })
			newMemory(t, "Sum of three", c, func() (api.Column, api.Errno) { return ring.Sum(p, c, c, c) })
		}
	}
}

// P10.1: the cells of a column may be one piece of memory, and pieces of one that
// lie upon one another.
func TestOneMemory(t *testing.T) {
	for _, p := range theirs {
		piece := numbered(uint64(p), 1, p+5)[0]
		for by := -1; by <= p; by++ {
			asMade(t, p, column(p-1, func(int) []byte { return piece[:4] }), by)
			asMade(t, p, column(p-1, func(row int) []byte { return piece[row : row+4] }), by)
		}
	}
}

// P10.1, and the rules: what is handed in is not kept.
func TestNotKept(t *testing.T) {
	for _, p := range theirs {
		for _, row := range calls {
			c := numbered(uint64(p), p-1, 4)
			got := sure(t)(row.call(p, c, 1))
			want := copied(got)
			for _, cell := range c {
				scribbled(cell)
			}
			clear(c)
			if !same(got, want) {
				t.Errorf("%s: what is done to the column of the prime %d later is seen", row.name, p)
			}
		}
		l := []api.Column{numbered(1, p-1, 4), numbered(2, p-1, 4)}
		want := bothUpon(l[0], l[1])
		got := sure(t)(ring.Sum(p, l...))
		for _, c := range l {
			for _, cell := range c {
				scribbled(cell)
			}
			clear(c)
		}
		if !same(got, want) {
			t.Errorf("what is done to columns of the prime %d later is seen in their sum", p)
		}
	}
}
