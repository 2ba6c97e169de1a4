package frame_test

import (
	"bytes"
	"math/rand/v2"
	"testing"

	"palisade/api"
	"palisade/frame"
)

// P15.1: the document's examples.
func TestExamples(t *testing.T) {
	if size, e := frame.Size(8); size != 20 || e != api.OK {
		t.Errorf("Size(8) = %d, error %d", size, e)
	}
	refused(t, make([]byte, 20), 8, 3, api.ErrEmpty)
	refused(t, make([]byte, 19), 8, 3, api.ErrRotten)
	b := mustMake(t, api.Frame{Cell: []byte{1, 2}, Address: 7, Generation: 9})
	if f, e := frame.Open(b, 2, 7); f.Generation != 9 || e != api.OK {
		t.Errorf("generation %d, error %d", f.Generation, e)
	}
	refused(t, b, 2, 8, api.ErrStrange)
}

// P15.1: a length that no cell has is told ahead of all that bytes may be.
func TestOpenNoLength(t *testing.T) {
	all := [][]byte{nil, {}, {0}, make([]byte, 12), make([]byte, 77), sealedUp(make([]byte, 8)), sealedUp(make([]byte, 65+8)), sealedUp(nil)}
	for _, f := range frames()[:8] {
		all = append(all, laid(f))
	}
	for _, n := range noLengths {
		for _, b := range all {
			for _, address := range []uint32{0, 1, 1<<32 - 1} {
				refused(t, b, n, address, api.ErrArg)
			}
		}
		if 0 <= n && n <= 128 {
			refused(t, make([]byte, n+12), n, 0, api.ErrArg)
			refused(t, laid(api.Frame{Cell: numbered(5, n), Address: 6}), n, 6, api.ErrArg)
		}
	}
}

// P15.1: noughts are an empty place just where they are as long as a frame,
// whatever its address.
func TestOpenEmpty(t *testing.T) {
	for n := 1; n <= 64; n++ {
		for many := range 140 {
			want := api.ErrRotten
			if many == n+12 {
				want = api.ErrEmpty
			}
			refused(t, make([]byte, many), n, words[many%len(words)], want)
		}
		refused(t, make([]byte, n+12), n, 0, api.ErrEmpty)
		refused(t, make([]byte, n+12+256), n, 0, api.ErrRotten)
		refused(t, nil, n, 0, api.ErrRotten)
	}
}

// P15.1: a place where one bit stands is not empty.
func TestOpenOneBit(t *testing.T) {
	for _, n := range []int{1, 8, 51, 52, 53, 63, 64} {
		b := make([]byte, n+12)
		for bit := range 8 * len(b) {
			b[bit/8] = 1 << (bit % 8)
			refused(t, b, n, 0, api.ErrRotten)
			b[bit/8] = 0
		}
	}
}

// P15.1: bytes of another length are rotten, sealed or not, at their address or
// not.
func TestOpenOtherLength(t *testing.T) {
	for n := 1; n <= 64; n++ {
		f := api.Frame{Cell: numbered(6, n), Address: 11, Generation: 12}
		b := laid(f)
		for m := 1; m <= 64; m++ {
			if m != n {
				refused(t, b, m, 11, api.ErrRotten)
			}
		}
		for many := range b {
			refused(t, b[:many], n, 11, api.ErrRotten)
			refused(t, b[len(b)-many:], n, 11, api.ErrRotten)
			if many >= 4 {
				refused(t, sealedUp(b[:many-4]), n, 11, api.ErrRotten)
			}
		}
		refused(t, append(bytes.Clone(b), 0), n, 11, api.ErrRotten)
		refused(t, append([]byte{0}, b...), n, 11, api.ErrRotten)
		refused(t, append(bytes.Clone(b), b...), n, 11, api.ErrRotten)
		refused(t, sealedUp(b), n, 11, api.ErrRotten)
		refused(t, sealedUp(append(b[:n+8:n+8], 0)), n, 11, api.ErrRotten)
		refused(t, sealedUp(append([]byte{0}, b[:n+8]...)), n, 11, api.ErrRotten)
	}
	refused(t, sealedUp(make([]byte, 1<<20)), 8, 0, api.ErrRotten)
	refused(t, make([]byte, 1<<22), 8, 0, api.ErrRotten)
}

// P15.1: bytes as long as must be, that are not sealed: told ahead of the address.
func TestOpenNotSealed(t *testing.T) {
	r := rand.New(rand.NewPCG(1, 2))
	for n := 1; n <= 64; n++ {
		f := api.Frame{Cell: numbered(7, n), Address: r.Uint32(), Generation: r.Uint32()}
		b := laid(f)
		turned := bytes.Clone(b)
		s := turned[n+8:]
		s[0], s[1], s[2], s[3] = s[3], s[2], s[1], s[0]
		zero := append(bytes.Clone(b[:n+8]), 0, 0, 0, 0)
		for _, no := range [][]byte{turned, zero, bytes.Repeat([]byte{0xff}, n+12), numbered(8, n+12)} {
			refused(t, no, n, f.Address, api.ErrRotten)
			refused(t, no, n, f.Address+1, api.ErrRotten)
			refused(t, no, n, 0, api.ErrRotten)
		}
	}
}

// P15.1: frames of another address, though they differ in one bit of it.
func TestOpenStrange(t *testing.T) {
	for _, f := range frames() {
		b := laid(f)
		for bit := range 32 {
			refused(t, b, len(f.Cell), f.Address^1<<bit, api.ErrStrange)
		}
		for _, address := range append(words, f.Address+1, f.Address-1, ^f.Address, f.Generation) {
			if address != f.Address {
				refused(t, b, len(f.Cell), address, api.ErrStrange)
			}
		}
	}
}

// short tells what is put upon at most four bytes that follow one another.
func short() [][]byte {
	var l [][]byte
	for i := 1; i < 256; i++ {
		l = append(l, []byte{byte(i)})
	}
	r := rand.New(rand.NewPCG(3, 4))
	for range 200 {
		x := []byte{byte(r.Uint32()) | 1, byte(r.Uint32()), byte(r.Uint32()), byte(r.Uint32())}
		l = append(l, x, x[:2], x[:3])
	}
	return append(l, []byte{0x78, 0x3b, 0xf6, 0x82}, []byte{0x82, 0xf6, 0x3b, 0x78}, []byte{1, 0, 0, 0x80}, []byte{0xff, 0xff, 0xff, 0xff})
}

// P15.3: short faults are rotten, wherever they lie, across all seams, too; at the
// address that they make, as well.
func TestShortFaults(t *testing.T) {
	for _, n := range []int{1, 2, 8, 51, 52, 53, 64} {
		f := api.Frame{Cell: numbered(9, n), Address: 0x10203040, Generation: 77}
		b := laid(f)
		for _, fault := range short() {
			for at := 0; at+len(fault) <= len(b); at++ {
				x := bytes.Clone(b)
				for i := range fault {
					x[at+i] ^= fault[i]
				}
				refused(t, x, n, f.Address, api.ErrRotten)
				there := uint32(x[n]) | uint32(x[n+1])<<8 | uint32(x[n+2])<<16 | uint32(x[n+3])<<24
				if there != f.Address {
					refused(t, x, n, there, api.ErrRotten)
				}
			}
		}
	}
}

// P15.3: a frame of noughts is no empty place; but it is, if its seal becomes
// nought, too, and rotten, if but a part of it does.
func TestNoughtsSealed(t *testing.T) {
	for n := 1; n <= 64; n++ {
		f := api.Frame{Cell: make([]byte, n)}
		b := mustMake(t, f)
		opens(t, b, f)
		refused(t, b, n, 1, api.ErrStrange)
		for many := 1; many <= 4; many++ {
			x := bytes.Clone(b)
			clear(x[n+8 : n+8+many])
			want := api.ErrRotten
			if bytes.Equal(x, b) {
				continue
			}
			if bytes.Equal(x, make([]byte, n+12)) {
				want = api.ErrEmpty
			}
			refused(t, x, n, 0, want)
		}
	}
}
