package frame_test

import (
	"bytes"
	"slices"
	"testing"

	"palisade/api"
	"palisade/frame"
)

// scribbled writes on bytes, and on the room behind them.
func scribbled(b []byte) {
	b = b[:cap(b)]
	for i := range b {
		b[i] ^= 0xff
	}
}

// The rules: what is handed in is not changed, spare room included.
func TestHandedIn(t *testing.T) {
	for _, f := range frames() {
		n := len(f.Cell)
		room := append(bytes.Clone(f.Cell), "and what lies behind the cell of a frame"...)
		was := bytes.Clone(room)
		g := api.Frame{Cell: room[:n], Address: f.Address, Generation: f.Generation}
		b := mustMake(t, g)
		frame.Same(g, f)
		frame.Same(f, g)
		if !bytes.Equal(room, was) {
			t.Errorf("%v: spare room is changed: %x", f, room)
		}
		room = append(b, "and what lies behind the bytes of a frame"...)
		was = bytes.Clone(room)
		b = room[:n+12]
		opens(t, b, f)
		refused(t, b, n, f.Address+1, api.ErrStrange)
		refused(t, room[:n+13], n, f.Address, api.ErrRotten)
		refused(t, b, 0, f.Address, api.ErrArg)
		newest(t, n, f.Address, 1, nil, b, b)
		if !bytes.Equal(room, was) {
			t.Errorf("%v: bytes, or the room behind them, are changed: %x", f, room)
		}
	}
}

// The rules: the list of bytes is not changed, nor what is behind it.
func TestListHandedIn(t *testing.T) {
	l := [][]byte{nil, at7(1), make([]byte, 14), at7(9), {1}, at7(9), at7(10)}
	was := make([][]byte, len(l))
	for i, b := range l {
		was[i] = slices.Clone(b)
	}
	for many := range l {
		frame.Newest(2, 7, l[:many]...)
		frame.Newest(2, 8, l[:many]...)
		frame.Newest(0, 7, l[:many]...)
	}
	if !slices.EqualFunc(l, was, bytes.Equal) {
		t.Errorf("bytes that were handed in: %x, were %x", l, was)
	}
}

// The rules: an answer shares no memory with what was handed in, or with another
// answer, and what is handed in is not kept.
func TestNewMemory(t *testing.T) {
	for _, f := range frames() {
		c := bytes.Clone(f.Cell)
		g := api.Frame{Cell: c, Address: f.Address, Generation: f.Generation}
		b, other := mustMake(t, g), mustMake(t, g)
		scribbled(b)
		if !bytes.Equal(c, f.Cell) || !bytes.Equal(other, laid(f)) {
			t.Errorf("%v: what is done to what Make told is seen", f)
		}
		scribbled(c)
		if !bytes.Equal(other, laid(f)) {
			t.Errorf("%v: what is done later to the cell is seen", f)
		}
		one, e := frame.Open(other, len(f.Cell), f.Address)
		two, e2 := frame.Open(other, len(f.Cell), f.Address)
		scribbled(one.Cell)
		if e != api.OK || e2 != api.OK || !same(two, f) || !bytes.Equal(other, laid(f)) {
			t.Errorf("%v: what is done to what Open told is seen", f)
		}
		scribbled(other)
		if !same(two, f) {
			t.Errorf("%v: what is done later to the bytes is seen", f)
		}
	}
}

// The rules: what is told hangs on what is handed in alone: it is told again, and
// whatever was asked ahead.
func TestAgain(t *testing.T) {
	f := api.Frame{Cell: numbered(4, 9), Address: 5, Generation: 6}
	for range 3 {
		b := mustMake(t, f)
		if !bytes.Equal(b, laid(f)) {
			t.Errorf("Make(%v) = %x", f, b)
		}
		opens(t, b, f)
		refused(t, b, 9, 6, api.ErrStrange)
		opens(t, b, f)
		refused(t, b[1:], 9, 5, api.ErrRotten)
		newest(t, 9, 5, 0, b)
		refused(t, make([]byte, 21), 9, 5, api.ErrEmpty)
		newest(t, 9, 6, -1, b)
	}
}
