package triple_test

import (
	"bytes"
	"slices"
	"testing"

	"palisade/api"
	"palisade/triple"
)

// call is one of the calls, and what it tells of whole columns.
type call struct {
	name string
	call func(p int, all []api.Column) ([]api.Column, api.Errno)
	want func(p int, all []api.Column) []api.Column
}

// calls is the calls of columns, with some of them lost.
func calls() []call {
	var l []call
	for _, w := range firstWays() {
		l = append(l, call{"told", w.told, func(_ int, all []api.Column) []api.Column { return w.of(all) }})
	}
	for _, role := range theRoles {
		for _, lost := range [][]int{nil, {1}, {0, 2}, {0, 1, 2}} {
			l = append(l, call{"Share",
				func(p int, all []api.Column) ([]api.Column, api.Errno) {
					c, e := triple.Share(p, all, role, lost...)
					return []api.Column{c}, e
				},
				func(p int, all []api.Column) []api.Column { return []api.Column{share(p, all, role, lost...)} },
			})
		}
	}
	return l
}

func sure(t *testing.T) func([]api.Column, api.Errno) []api.Column {
	return func(l []api.Column, e api.Errno) []api.Column {
		t.Helper()
		if e != api.OK {
			t.Fatalf("error %d", e)
		}
		return l
	}
}

// roomy is whole columns whose lists and cells have something in the room behind
// them: the one that follows. unchanged tells whether all of it still stands there.
func roomy(p, length int) (cols []api.Column, unchanged func() bool) {
	was := whole(p, numbered(uint64(p), p, p-1, length))
	var memory []byte
	for _, col := range was {
		memory = append(memory, bytes.Join(col, nil)...)
	}
	memory = append(memory, bytes.Repeat([]byte{7}, length)...)
	cells := make(api.Column, (p+3)*(p-1)+1)
	for n := range cells {
		cells[n] = memory[n*length : (n+1)*length]
	}
	var all []api.Column
	for col := range p + 3 {
		all = append(all, cells[col*(p-1):(col+1)*(p-1)])
	}
	all = append(all, cells[(p+3)*(p-1):], cells, nil, cells)
	wasMemory, were := slices.Clone(memory), copied(all)
	return all[:p+3], func() bool { return bytes.Equal(memory, wasMemory) && same(all, were) }
}

// The rules: what is handed in is not changed, spare room, and what stands in the
// place of lost columns, included.
func TestHandedIn(t *testing.T) {
	for _, p := range theirs {
		all, unchanged := roomy(p, 3)
		told := copied(all)
		for n, w := range ways(p) {
			if p < 11 || n%5 == 0 {
				w.is(t, p, all, w.of(told)...)
			}
		}
		for _, of := range calls() {
			if got := sure(t)(of.call(p, all)); !same(got, of.want(p, told)) {
				t.Errorf("%s of the prime %d: %x, want %x", of.name, p, got, of.want(p, told))
			}
		}
		for _, w := range firstWays() {
			w.isNot(t, p, all[:p+4], api.ErrArg)
			way{slices.Repeat([]int{1}, 1+len(w.lost)%3), w.role}.told(p, all)
		}
		if !unchanged() {
			t.Errorf("what was handed in of the prime %d is changed", p)
		}
	}
}

// P13.1, and the rules: the list of lost columns is not changed, nor what is behind
// it.
func TestListHandedIn(t *testing.T) {
	for _, p := range theirs {
		all := numbered(uint64(p), p+3, p-1, 3)
		for _, list := range [][]int{{0, 1, 2}, {2, 1, 0}, {0, 2, 2}} {
			was := slices.Clone(list)
			for many := range 4 {
				for _, role := range theRoles {
					triple.Share(p, all, role, list[:many]...)
				}
			}
			if !slices.Equal(list, was) {
				t.Errorf("lost columns that were handed in: %v, were %v", list, was)
			}
		}
	}
}

// scribbled writes on a cell, and on the room behind it.
func scribbled(c []byte) {
	c = c[:cap(c)]
	for i := range c {
		c[i] ^= 0xff
	}
}

// The rules: answers are new memory, room behind them included: what is done to one
// cell of one answer is seen in that one alone.
func TestNewMemory(t *testing.T) {
	for _, p := range []int{3, 5, 7} {
		cols := [][]api.Column{
			whole(p, numbered(uint64(p), p, p-1, 3)),
			noughts(p+3, p-1, 3),
			whole(p, each(p, p-1, func(col, _ int) []byte { return []byte{byte(col / 2), 0, 0} })),
		}
		for _, all := range cols {
			for _, of := range calls() {
				newMemory(t, of.name, copied(of.want(p, all)), all, func() []api.Column { return sure(t)(of.call(p, all)) })
			}
		}
	}
}

func newMemory(t *testing.T, name string, want, all []api.Column, call func() []api.Column) {
	t.Helper()
	was := copied(all)
	for col := range want {
		for row := range want[col] {
			got, other := call(), call()
			scribbledOn := copied(want)
			scribbled(got[col][row])
			scribbled(scribbledOn[col][row][:3:3])
			_ = append(got[col], []byte{1})
			if !same(got, scribbledOn) || !same(other, want) || !same(all, was) {
				t.Errorf("%s: what is done to the cell %d %d of an answer is seen", name, col, row)
			}
			clear(got[col][:cap(got[col])])
			scribbledOn[col] = make(api.Column, len(want[col]))
			if !same(got, scribbledOn) || !same(other, want) || !same(all, was) || !same(call(), want) {
				t.Errorf("%s: what is done to the column %d of an answer is seen", name, col)
			}
		}
	}
}

// Cells, and columns, may be one piece of memory: those of lost columns and of the
// others, too.
func TestOneMemory(t *testing.T) {
	for _, p := range theirs {
		piece := []byte{0, 0, 0}
		all := each(p+3, p-1, func(int, int) []byte { return piece })
		for _, of := range calls() {
			if got, want := sure(t)(of.call(p, all)), of.want(p, noughts(p+3, p-1, 3)); !same(got, want) {
				t.Errorf("%s of the prime %d: %x, want %x", of.name, p, got, want)
			}
		}
		was := whole(p, numbered(uint64(p), p, p-1, 4))
		for _, w := range firstWays() {
			gone := w.gone(p)
			for stands := range was {
				if slices.Contains(gone, stands) {
					continue
				}
				all := copied(was)
				for _, col := range gone {
					all[col] = all[stands]
				}
				w.is(t, p, all, w.of(was)...)
			}
		}
	}
}

// The rules: what is handed in is not kept.
func TestNotKept(t *testing.T) {
	for _, p := range theirs {
		for _, of := range calls() {
			all := whole(p, numbered(uint64(p), p, p-1, 4))
			want := copied(of.want(p, all))
			got := sure(t)(of.call(p, all))
			for _, col := range all {
				for _, c := range col {
					scribbled(c)
				}
				clear(col)
			}
			clear(all)
			if !same(got, want) {
				t.Errorf("%s: what is done to columns of the prime %d later is seen", of.name, p)
			}
		}
	}
}

// What a call answers hangs on its arguments alone.
func TestAgain(t *testing.T) {
	for _, p := range theirs {
		all := whole(p, numbered(uint64(p), p, p-1, 4))
		for range 3 {
			for _, w := range firstWays() {
				w.is(t, p, all, w.of(all)...)
				w.isNot(t, p, all[1:], api.ErrArg)
				isShare(t, p, all, theRoles[len(w.lost)%3], share(p, all, theRoles[len(w.lost)%3], w.lost...), w.lost...)
			}
			way{[]int{p}, api.RoleRow}.isNot(t, p, all, api.ErrRange)
			noShare(t, p, all, api.RoleRow, api.ErrRange, 1, 0)
		}
	}
}
