package pair_test

import (
	"bytes"
	"slices"
	"testing"

	"palisade/api"
	"palisade/pair"
)

func row(a int) func(int, []api.Column) ([]api.Column, api.Errno) {
	return func(p int, all []api.Column) ([]api.Column, api.Errno) {
		c, e := pair.Row(p, all, a)
		return []api.Column{c}, e
	}
}

// calls is the calls of columns, with some of them lost; want is what they tell of
// whole columns.
var calls = []struct {
	name string
	call func(p int, all []api.Column) ([]api.Column, api.Errno)
	want func(p int, all []api.Column) []api.Column
}{
	{"Recover", func(p int, all []api.Column) ([]api.Column, api.Errno) { return pair.Recover(p, all, 0, 1) },
		func(_ int, all []api.Column) []api.Column { return all[:2] }},
	{"Recover of rows", func(p int, all []api.Column) ([]api.Column, api.Errno) { return pair.Recover(p, all, p-2, p-1) },
		func(p int, all []api.Column) []api.Column { return all[p-2 : p] }},
	{"Row", row(0), func(_ int, all []api.Column) []api.Column { return all[:1] }},
	{"Row of 1", row(1), func(_ int, all []api.Column) []api.Column { return all[1:2] }},
	{"Row of rows", func(p int, all []api.Column) ([]api.Column, api.Errno) { return row(p-1)(p, all) },
		func(p int, all []api.Column) []api.Column { return all[p-1 : p] }},
}

func sure(t *testing.T) func([]api.Column, api.Errno) []api.Column {
	return func(l []api.Column, e api.Errno) []api.Column {
		t.Helper()
		if e != api.OK {
			t.Fatalf("error %d", e)
		}
		return l
	}
}

// roomy is whole columns whose lists and cells have something in the room behind
// them: the one that follows. unchanged tells whether all of it still stands there.
func roomy(p, length int) (cols []api.Column, unchanged func() bool) {
	was := whole(p, numbered(uint64(p), p-1, p-1, length))
	var memory []byte
	for _, col := range was {
		memory = append(memory, bytes.Join(col, nil)...)
	}
	memory = append(memory, bytes.Repeat([]byte{7}, length)...)
	cells := make(api.Column, (p+1)*(p-1)+1)
	for n := range cells {
		cells[n] = memory[n*length : (n+1)*length]
	}
	var all []api.Column
	for col := range p + 1 {
		all = append(all, cells[col*(p-1):(col+1)*(p-1)])
	}
	all = append(all, cells[(p+1)*(p-1):], cells, nil, cells)
	wasMemory, were := slices.Clone(memory), copied(all)
	return all[:p+1], func() bool { return bytes.Equal(memory, wasMemory) && same(all, were) }
}

// P12.2, and the rules: what is handed in is not changed, spare room, and what
// stands in the place of lost columns, included.
func TestHandedIn(t *testing.T) {
	for _, p := range theirs {
		all, unchanged := roomy(p, 3)
		told := copied(all)
		for _, l := range pairs(p) {
			isPair(t, p, all, l[0], l[1], told[l[0]], told[l[1]])
		}
		for a := range p {
			isRow(t, p, all, a, told[a])
		}
		noPair(t, p, all[:p+2], 0, 1, api.ErrArg)
		noPair(t, p, all, 1, 1, api.ErrRange)
		noRow(t, p, all, p, api.ErrRange)
		if !unchanged() {
			t.Errorf("what was handed in of the prime %d is changed", p)
		}
	}
}

// scribbled writes on a cell, and on the room behind it.
func scribbled(c []byte) {
	c = c[:cap(c)]
	for i := range c {
		c[i] ^= 0xff
	}
}

// P12.2, and the rules: answers are new memory, room behind them included: what is
// done to one cell of one answer is seen in that one alone.
func TestNewMemory(t *testing.T) {
	for _, p := range theirs {
		lists := [][]api.Column{
			whole(p, numbered(uint64(p), p-1, p-1, 3)),
			whole(p, noughts(p-1, p-1, 3)),
			whole(p, each(p-1, p-1, func(col, _ int) []byte { return []byte{byte(col / 2), 0, 0} })),
		}
		for _, all := range lists {
			for _, of := range calls {
				newMemory(t, of.name, copied(of.want(p, all)), all, func() []api.Column { return sure(t)(of.call(p, all)) })
			}
		}
	}
}

func newMemory(t *testing.T, name string, want, all []api.Column, call func() []api.Column) {
	t.Helper()
	was := copied(all)
	for col := range want {
		for row := range want[col] {
			got, other := call(), call()
			scribbledOn := copied(want)
			scribbled(got[col][row])
			scribbled(scribbledOn[col][row][:3:3])
			_ = append(got[col], []byte{1})
			if !same(got, scribbledOn) || !same(other, want) || !same(all, was) {
				t.Errorf("%s: what is done to the cell %d %d of an answer is seen", name, col, row)
			}
			clear(got[col][:cap(got[col])])
			scribbledOn[col] = make(api.Column, len(want[col]))
			if !same(got, scribbledOn) || !same(other, want) || !same(all, was) || !same(call(), want) {
				t.Errorf("%s: what is done to the column %d of an answer is seen", name, col)
			}
		}
	}
}

// P12.2: cells, and columns, may be one piece of memory: those of lost columns and
// of the others, too.
func TestOneMemory(t *testing.T) {
	for _, p := range theirs {
		piece := []byte{0, 0, 0}
		all := each(p+1, p-1, func(int, int) []byte { return piece })
		for _, of := range calls {
			if got, want := sure(t)(of.call(p, all)), of.want(p, noughts(p+1, p-1, 3)); !same(got, want) {
				t.Errorf("%s of the prime %d: %x, want %x", of.name, p, got, want)
			}
		}
		was := whole(p, numbered(uint64(p), p-1, p-1, 4))
		for _, l := range pairs(p) {
			for _, stands := range []int{0, p - 1, p} {
				all := copied(was)
				all[l[0]], all[l[1]] = all[stands], all[p]
				isPair(t, p, all, l[0], l[1], was[l[0]], was[l[1]])
			}
		}
	}
}

// P12.2, and the rules: what is handed in is not kept.
func TestNotKept(t *testing.T) {
	for _, p := range theirs {
		for _, of := range calls {
			all := whole(p, numbered(uint64(p), p-1, p-1, 4))
			want := copied(of.want(p, all))
			got := sure(t)(of.call(p, all))
			for _, col := range all {
				for _, c := range col {
					scribbled(c)
				}
				clear(col)
			}
			clear(all)
			if !same(got, want) {
				t.Errorf("%s: what is done to columns of the prime %d later is seen", of.name, p)
			}
		}
	}
}

// P12.1, P12.2: what a call answers hangs on its arguments alone.
func TestAgain(t *testing.T) {
	for _, p := range theirs {
		all := whole(p, numbered(uint64(p), p-1, p-1, 4))
		for range 3 {
			isPair(t, p, all, 0, p-1, all[0], all[p-1])
			noPair(t, p, all, p-1, 0, api.ErrRange)
			noPair(t, p, all[1:], 0, 1, api.ErrArg)
			isRow(t, p, all, p-1, all[p-1])
			noRow(t, p, all, -1, api.ErrRange)
			isOrder(t, p, 0, p-1, order(p, 0, p-1))
		}
	}
}
