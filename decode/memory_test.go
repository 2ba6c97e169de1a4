package decode_test

import (
	"bytes"
	"slices"
	"testing"

	"palisade/api"
	"palisade/decode"
)

// roomy is a whole stripe whose lists and cells have something in the room behind
// them: the one that follows. unchanged tells whether all of it still stands there.
func (f form) roomy(length int) (s api.Stripe, unchanged func() bool) {
	var memory []byte
	for _, col := range append(f.wholeOf(1, length), f.noughts(1, length)[0]) {
		memory = append(memory, slices.Concat(col...)...)
	}
	cells := make(api.Column, (f.cols+1)*f.rows)
	for n := range cells {
		cells[n] = memory[n*length : (n+1)*length]
	}
	var all []api.Column
	for col := range f.cols + 1 {
		all = append(all, cells[col*f.rows:(col+1)*f.rows])
	}
	all = append(all, cells, nil, cells)
	were, wasMemory := copied(all), slices.Clone(memory)
	return all[:f.cols], func() bool { return same(all, were) && bytes.Equal(memory, wasMemory) }
}

// The rules: what is handed in is not changed, spare room, and what stands in the
// place of lost columns, included.
func TestHandedIn(t *testing.T) {
	for _, f := range forms() {
		s, unchanged := f.roomy(3)
		want := api.Stripe(copied(s))
		for n, lost := range f.losses() {
			if f.code.P < 11 || n%19 == 0 {
				decodes(t, f, s, want, lost...)
			}
		}
		blamed(t, f, s, -1)
		refused(t, f.code, s, api.ErrMany, 0, 1, 2, 3)
		if !unchanged() {
			t.Errorf("%v: what was handed in is changed", f.code)
		}
		s[1][0], s[1][1] = s[1][1], s[1][0]
		was := copied(s)
		blamed(t, f, s, 1)
		refused(t, f.code, s, api.ErrWrong, 0)
		decodes(t, f, s, want, 1)
		if !same(s, was) {
			t.Errorf("%v: what contradicts is changed", f.code)
		}
	}
}

// The rules: the numbers of lost columns are not changed, nor what is behind them.
func TestListHandedIn(t *testing.T) {
	for _, f := range forms() {
		s := f.wholeOf(1, 2)
		list := []int{3, 1, 2, 0, 0, -1}
		was := slices.Clone(list)
		for many := range list {
			decode.Check(api.Loss{Code: f.code, Lost: list[:many]})
			decode.Decode(f.code, s, list[:many]...)
			decode.Cell(f.code, s, api.At{Col: 1, Row: 1}, list[:many]...)
		}
		if !slices.Equal(list, was) {
			t.Errorf("%v: lost columns that were handed in: %v, were %v", f.code, list, was)
		}
	}
}

// scribbled writes on a cell, and on the room behind it.
func scribbled(c []byte) {
	c = c[:cap(c)]
	for i := range c {
		c[i] ^= 0xff
	}
}

// spoil writes over all columns, their lists, and their cells.
func spoil(l []api.Column) {
	for _, col := range l {
		for _, c := range col {
			scribbled(c)
		}
		clear(col[:cap(col)])
	}
	clear(l[:cap(l)])
}

// The rules: an answer shares no memory with what was handed in, with another
// answer, or within itself: what is done to one of its cells is seen in that one
// alone.
func TestNewMemory(t *testing.T) {
	for _, f := range small() {
		for _, lost := range f.losses() {
			s := f.wholeOf(8, 3)
			must := func() api.Stripe {
				o, e := decode.Decode(f.code, s, lost...)
				if e != api.OK {
					t.Fatalf("Decode(%v, %x, %v): error %d", f.code, s, lost, e)
				}
				return o
			}
			was := copied(s)
			for _, at := range f.spots(0, f.cols) {
				o, other, want := must(), must(), copied(was)
				scribbled(cellOf(o, at))
				scribbled(cellOf(want, at)[:3:3])
				_ = append(o[0], []byte{1})
				c, e := decode.Cell(f.code, s, at, lost...)
				scribbled(c)
				if e != api.OK || !same(o, want) || !same(s, was) || !same(other, was) {
					t.Errorf("%v, %v: what is done to the cell at %v is seen", f.code, lost, at)
				}
				spoil(o)
				if !same(s, was) || !same(other, was) {
					t.Errorf("%v, %v: what is done to an answer is seen", f.code, lost)
				}
			}
		}
	}
}

// The rules: what is handed in is not kept.
func TestNotKept(t *testing.T) {
	for _, f := range forms() {
		for _, lost := range [][]int{nil, {0}, {f.cols - 1}, {0, 1}, {1, f.data}} {
			s := f.wholeOf(9, 3)
			want := copied(s)
			o, e := decode.Decode(f.code, s, lost...)
			c, e2 := decode.Cell(f.code, s, api.At{}, lost...)
			spoil(s)
			if e != api.OK || e2 != api.OK || !same(o, want) || !bytes.Equal(c, want[0][0]) {
				t.Errorf("%v, %v: what is done later to what was handed in is seen", f.code, lost)
			}
		}
	}
}

// The rules: cells and columns may be the same piece of memory. What is told of
// them has memory for each all the same.
func TestOneMemory(t *testing.T) {
	for _, f := range forms() {
		nought := []byte{0, 0}
		s := make(api.Stripe, f.cols)
		for col := range s {
			s[col] = slices.Repeat(api.Column{nought}, f.rows)
		}
		one := slices.Repeat(api.Stripe{s[0]}, f.cols)
		for _, lost := range [][]int{nil, {1}, {0, 1}, {f.data, 1}} {
			decodes(t, f, s, s, lost...)
			o, e := decode.Decode(f.code, one, lost...)
			if e != api.OK || !same(o, s) {
				t.Fatalf("%v, %v: %x, error %d", f.code, lost, o, e)
			}
			want := copied(o)
			scribbled(o[1][1])
			scribbled(want[1][1][:2:2])
			if !same(o, want) {
				t.Errorf("%v, %v: what is done to one cell is seen in another one", f.code, lost)
			}
		}
		blamed(t, f, one, -1)
	}
}

// The rules: what is told hangs on what is handed in alone: it is told again, and
// whatever was asked ahead.
func TestAgain(t *testing.T) {
	for _, f := range forms() {
		s := f.wholeOf(10, 2)
		for range 3 {
			decodes(t, f, s, s, 0, 1)
			refused(t, f.code, f.any(3, 2), api.ErrWrong, 1)
			decodes(t, f, s, s, f.data, 0)
			refused(t, f.code, s, api.ErrMany, 0, 1, 2, 3)
			decodes(t, f, s, s)
			blamed(t, f, s, -1)
		}
	}
}
