package frame_test

import (
	"bytes"
	"encoding/binary"
	"hash/crc32"
	"math"
	"math/rand/v2"
	"testing"

	"palisade/api"
	"palisade/frame"
)

// sealedUp lays the sum behind bytes, by a sum of the library's own, so that the
// tests hold what is told against something made another way.
func sealedUp(b []byte) []byte {
	return binary.LittleEndian.AppendUint32(bytes.Clone(b), crc32.Checksum(b, crc32.MakeTable(crc32.Castagnoli)))
}

// laid tells a frame's bytes by the document's words.
func laid(f api.Frame) []byte {
	b := binary.LittleEndian.AppendUint32(bytes.Clone(f.Cell), f.Address)
	return sealedUp(binary.LittleEndian.AppendUint32(b, f.Generation))
}

func same(a, b api.Frame) bool {
	return bytes.Equal(a.Cell, b.Cell) && a.Address == b.Address && a.Generation == b.Generation
}

// numbered is a cell that hangs on the seed alone.
func numbered(seed uint64, length int) []byte {
	r := rand.New(rand.NewPCG(seed, uint64(length)))
	b := make([]byte, length)
	for i := range b {
		b[i] = byte(r.Uint32())
	}
	return b
}

// words is words at the ends, and such as would be others, if they were cut to
// fewer bits, taken as signed, or turned around.
var words = []uint32{
	0, 1, 7, 127, 128, 255, 256, 1<<15 - 1, 1 << 15, 1<<16 - 1, 1 << 16, 0x01020304, 0x04030201,
	1 << 24, 1<<31 - 1, 1 << 31, 1<<31 + 4096*3 + 5, 0xffffff00, 1<<32 - 2, 1<<32 - 1,
}

// noLengths is lengths that no cell has: near and far off, and such as would be
// one, if they were cut to fewer bits.
var noLengths = []int{
	math.MinInt, math.MinInt + 1, -1<<32 + 8, -1 << 31, -1<<16 + 8, -64, -13, -12, -11, -2, -1, 0,
	65, 66, 76, 77, 128, 1<<8 + 1, 1<<16 + 8, 1 << 20, 1<<31 - 1, 1<<32 + 1, 1<<32 + 64, math.MaxInt - 11, math.MaxInt - 1, math.MaxInt,
}

// frames is a frame of each length of cells at least, noughts and full ones among
// them.
func frames() []api.Frame {
	var l []api.Frame
	for n := 1; n <= 64; n++ {
		l = append(l,
			api.Frame{Cell: numbered(1, n), Address: words[n%len(words)], Generation: words[(n*7+3)%len(words)]},
			api.Frame{Cell: make([]byte, n)},
			api.Frame{Cell: make([]byte, n), Address: 1<<32 - 1},
			api.Frame{Cell: bytes.Repeat([]byte{0xff}, n), Address: 1<<32 - 1, Generation: 1<<32 - 1})
	}
	for _, address := range words {
		for _, generation := range words {
			l = append(l, api.Frame{Cell: numbered(2, 5), Address: address, Generation: generation})
		}
	}
	return l
}

func mustMake(t *testing.T, f api.Frame) []byte {
	t.Helper()
	b, e := frame.Make(f)
	if e != api.OK {
		t.Fatalf("Make(%v): error %d", f, e)
	}
	return b
}

// opens fails, if bytes aren't opened as that frame.
func opens(t *testing.T, b []byte, want api.Frame) {
	t.Helper()
	f, e := frame.Open(b, len(want.Cell), want.Address)
	if e != api.OK || !same(f, want) {
		t.Errorf("Open(%x, %d, %d) = %v, error %d, want %v", b, len(want.Cell), want.Address, f, e, want)
	}
}

// refused fails, if Open tells another error, or anything beside it.
func refused(t *testing.T, b []byte, n int, address uint32, want api.Errno) {
	t.Helper()
	f, e := frame.Open(b, n, address)
	if e != want || len(f.Cell) != 0 || f.Address != 0 || f.Generation != 0 {
		t.Errorf("Open(%x, %d, %d) = %v, error %d, want error %d", b, n, address, f, e, want)
	}
}

// P15.1: how many bytes frames have, of all cells there are.
func TestSize(t *testing.T) {
	for n := 1; n <= 64; n++ {
		if size, e := frame.Size(n); size != n+12 || e != api.OK {
			t.Errorf("Size(%d) = %d, error %d", n, size, e)
		}
	}
	for _, n := range noLengths {
		if size, e := frame.Size(n); size != 0 || e != api.ErrArg {
			t.Errorf("Size(%d) = %d, error %d", n, size, e)
		}
	}
}

// P15.1: bytes of frames, written out.
func TestMakeRows(t *testing.T) {
	rows := []struct {
		f    api.Frame
		want string
	}{
		{api.Frame{Cell: []byte{1, 2}, Address: 7, Generation: 9}, "\x01\x02\x07\x00\x00\x00\x09\x00\x00\x00"},
		{api.Frame{Cell: []byte{0}}, "\x00\x00\x00\x00\x00\x00\x00\x00\x00"},
		{api.Frame{Cell: []byte("abc"), Address: 0x01020304, Generation: 0xa1b2c3d4}, "abc\x04\x03\x02\x01\xd4\xc3\xb2\xa1"},
		{api.Frame{Cell: []byte{255}, Address: 1 << 31, Generation: 1<<32 - 1}, "\xff\x00\x00\x00\x80\xff\xff\xff\xff"},
	}
	for _, r := range rows {
		if b := mustMake(t, r.f); !bytes.Equal(b, sealedUp([]byte(r.want))) {
			t.Errorf("Make(%v) = %x, want %x and its sum", r.f, b, r.want)
		}
	}
	if b := mustMake(t, rows[0].f); string(b[10:]) != "\xf5\x9d\x42\x14" {
		t.Errorf("the seal of %v is %x", rows[0].f, b[10:])
	}
}

// P15.1: bytes of frames of all lengths, of many addresses and generations.
func TestMake(t *testing.T) {
	for _, f := range frames() {
		b := mustMake(t, f)
		if size, e := frame.Size(len(f.Cell)); len(b) != size || e != api.OK {
			t.Errorf("Make(%v) has %d bytes, Size tells %d, error %d", f, len(b), size, e)
		}
		if want := laid(f); !bytes.Equal(b, want) {
			t.Errorf("Make(%v) = %x, want %x", f, b, want)
		}
	}
}

// P15.1: cells that may not be.
func TestMakeRefuses(t *testing.T) {
	cells := [][]byte{nil, {}, numbered(1, 64)[:0], numbered(1, 65), numbered(1, 66), make([]byte, 76), make([]byte, 256+8), make([]byte, 1<<16+1), make([]byte, 1<<21)}
	for _, c := range cells {
		if b, e := frame.Make(api.Frame{Cell: c, Address: 3, Generation: 4}); e != api.ErrArg || len(b) != 0 {
			t.Errorf("Make of a cell of %d bytes: %d bytes, error %d", len(c), len(b), e)
		}
	}
	if b, e := frame.Make(api.Frame{}); e != api.ErrArg || len(b) != 0 {
		t.Errorf("Make of no frame: %x, error %d", b, e)
	}
}

// P15.1, P15.3: Open of Make is the frame; so is Open of what is laid by hand.
func TestOpenOfMake(t *testing.T) {
	for _, f := range frames() {
		opens(t, mustMake(t, f), f)
		opens(t, laid(f), f)
	}
}

// P15.3: two frames have the same bytes just if they are the same.
func TestSameBytes(t *testing.T) {
	l := frames()
	all := make([][]byte, len(l))
	for i, f := range l {
		all[i] = mustMake(t, f)
	}
	for i, f := range l {
		for j, g := range l {
			if s := frame.Same(f, g); s != bytes.Equal(all[i], all[j]) || s != same(f, g) {
				t.Errorf("%v and %v: Same %v, bytes %x and %x", f, g, s, all[i], all[j])
			}
		}
	}
}

// P15.2: what frames may differ in; nil and empty cells are the same.
func TestSame(t *testing.T) {
	f := api.Frame{Cell: []byte{1, 2, 3}, Address: 4, Generation: 5}
	long := numbered(3, 100)
	rows := []struct {
		a, b api.Frame
		want bool
	}{
		{f, api.Frame{Cell: []byte{1, 2, 3}, Address: 4, Generation: 5}, true},
		{f, api.Frame{Cell: []byte{1, 2, 4}, Address: 4, Generation: 5}, false},
		{f, api.Frame{Cell: []byte{0, 2, 3}, Address: 4, Generation: 5}, false},
		{f, api.Frame{Cell: []byte{1, 2}, Address: 4, Generation: 5}, false},
		{f, api.Frame{Cell: []byte{1, 2, 3, 0}, Address: 4, Generation: 5}, false},
		{f, api.Frame{Cell: []byte{1, 2, 3}, Address: 5, Generation: 5}, false},
		{f, api.Frame{Cell: []byte{1, 2, 3}, Address: 4 + 1<<16, Generation: 5}, false},
		{f, api.Frame{Cell: []byte{1, 2, 3}, Address: 4, Generation: 4}, false},
		{f, api.Frame{Cell: []byte{1, 2, 3}, Address: 4, Generation: 5 + 1<<31}, false},
		{f, api.Frame{Cell: []byte{1, 2, 3}, Address: 5, Generation: 4}, false},
		{f, api.Frame{Address: 4, Generation: 5}, false},
		{f, api.Frame{}, false},
		{api.Frame{}, api.Frame{}, true},
		{api.Frame{}, api.Frame{Cell: []byte{}}, true},
		{api.Frame{Cell: f.Cell[:0]}, api.Frame{Cell: nil}, true},
		{api.Frame{Generation: 1}, api.Frame{Cell: []byte{}}, false},
		{api.Frame{Cell: long}, api.Frame{Cell: bytes.Clone(long)}, true},
		{api.Frame{Cell: long}, api.Frame{Cell: long[:99]}, false},
		{api.Frame{Cell: make([]byte, 65)}, api.Frame{Cell: make([]byte, 66)}, false},
	}
	for _, r := range rows {
		if a, b := frame.Same(r.a, r.b), frame.Same(r.b, r.a); a != r.want || b != r.want {
			t.Errorf("%v and %v: Same %v, turned around %v, want %v", r.a, r.b, a, b, r.want)
		}
	}
}
