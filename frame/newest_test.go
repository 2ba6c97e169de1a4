package frame_test

import (
	"math/rand/v2"
	"slices"
	"testing"

	"palisade/api"
	"palisade/frame"
)

// newest fails, if Newest tells another one; want is -1, if none can be opened.
func newest(t *testing.T, n int, address uint32, want int, l ...[]byte) {
	t.Helper()
	e := api.OK
	if want < 0 {
		want, e = 0, api.ErrNone
	}
	if at, told := frame.Newest(n, address, l...); at != want || told != e {
		t.Errorf("Newest(%d, %d, %x) = %d, error %d, want %d, error %d", n, address, l, at, told, want, e)
	}
}

// at7 is bytes of a cell of two bytes at the address 7, of a generation.
func at7(generation uint32) []byte {
	return laid(api.Frame{Cell: []byte{1, 2}, Address: 7, Generation: generation})
}

// P15.2: which one is the newest; rotten, strange and empty ones are none,
// whatever they would tell.
func TestNewest(t *testing.T) {
	rotten := at7(1<<32 - 1)
	rotten[0] ^= 1
	strange := laid(api.Frame{Cell: []byte{1, 2}, Address: 8, Generation: 1<<32 - 1})
	longer := laid(api.Frame{Cell: []byte{1, 2, 3}, Address: 7, Generation: 1<<32 - 1})
	empty := make([]byte, 14)
	rows := []struct {
		l    [][]byte
		want int
	}{
		{nil, -1},
		{[][]byte{}, -1},
		{[][]byte{nil}, -1},
		{[][]byte{nil, {}, rotten, strange, longer, empty}, -1},
		{[][]byte{at7(0)}, 0},
		{[][]byte{empty, at7(0)}, 1},
		{[][]byte{at7(0), empty}, 0},
		{[][]byte{at7(0), at7(0)}, 0},
		{[][]byte{at7(1), at7(2), at7(3)}, 2},
		{[][]byte{at7(3), at7(2), at7(1)}, 0},
		{[][]byte{at7(1), at7(3), at7(2)}, 1},
		{[][]byte{at7(1), at7(3), at7(2), at7(3), at7(3)}, 1},
		{[][]byte{at7(255), at7(256), at7(1)}, 1},
		{[][]byte{at7(1<<31 - 1), at7(1 << 31), at7(5)}, 1},
		{[][]byte{at7(1<<32 - 1), at7(0), at7(1 << 31)}, 0},
		{[][]byte{at7(1 << 31), at7(1<<32 - 2), at7(1<<32 - 1), at7(1<<32 - 1)}, 2},
		{[][]byte{rotten, at7(1), strange, at7(2), longer, at7(2), empty, nil, rotten}, 3},
		{[][]byte{at7(2), rotten, strange, longer}, 0},
		{[][]byte{rotten, strange, longer, at7(0)}, 3},
	}
	for _, r := range rows {
		newest(t, 2, 7, r.want, r.l...)
	}
	newest(t, 2, 8, 1, rotten, strange, at7(9))
	newest(t, 3, 7, 2, rotten, strange, longer, at7(9))
}

// P15.2: the cells don't count: the same generation is the same age.
func TestNewestCells(t *testing.T) {
	a := laid(api.Frame{Cell: []byte{1, 2}, Address: 7, Generation: 5})
	b := laid(api.Frame{Cell: []byte{255, 255}, Address: 7, Generation: 5})
	newest(t, 2, 7, 0, a, b)
	newest(t, 2, 7, 0, b, a)
	newest(t, 2, 7, 1, at7(4), b, a)
}

// P15.2: a length that no cell has is told ahead of all else, of no bytes, too.
func TestNewestNoLength(t *testing.T) {
	for _, n := range noLengths {
		for _, l := range [][][]byte{nil, {}, {nil}, {at7(1)}, {make([]byte, 12)}, {make([]byte, 77)}} {
			if at, e := frame.Newest(n, 7, l...); at != 0 || e != api.ErrArg {
				t.Errorf("Newest(%d, 7, %x) = %d, error %d", n, l, at, e)
			}
		}
	}
}

// P15.2: many bytes of all kinds, of all lengths of cells, held against what Open
// tells one by one.
func TestNewestAsOpen(t *testing.T) {
	r := rand.New(rand.NewPCG(5, 6))
	for round := range 2000 {
		n, want, best := round%64+1, -1, uint32(0)
		var l [][]byte
		for range r.IntN(12) {
			f := api.Frame{Cell: numbered(r.Uint64(), n), Address: 3, Generation: words[r.IntN(len(words))]}
			if r.IntN(4) == 0 {
				f.Address = words[r.IntN(len(words))]
			}
			b := laid(f)
			if r.IntN(3) == 0 {
				b[r.IntN(len(b))] ^= byte(r.Uint32())
			}
			if r.IntN(8) == 0 {
				b = make([]byte, n+12)
			}
			l = append(l, b)
		}
		for i, b := range l {
			if f, e := frame.Open(b, n, 3); e == api.OK && (want < 0 || f.Generation > best) {
				want, best = i, f.Generation
			}
		}
		newest(t, n, 3, want, l...)
	}
}

// P15.2: many bytes at once.
func TestNewestMany(t *testing.T) {
	l := slices.Repeat([][]byte{at7(3)}, 20000)
	newest(t, 2, 7, 0, l...)
	l[len(l)-1] = at7(4)
	newest(t, 2, 7, len(l)-1, l...)
}
