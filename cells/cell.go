package cells

import (
	"bytes"
	"iter"
	"math/bits"

	"palisade/api"
)

// octets is bytes of any length: what lies behind glued ones has no cell's.
type octets []byte

func (o octets) copied() octets { return bytes.Clone(o) }

func (o octets) haveNoBit() bool {
	for range o.bits() {
		return false
	}
	return true
}

// bits goes over the places of bits, the lowest one of the first byte ahead.
func (o octets) bits() iter.Seq[int] {
	return func(yield func(int) bool) {
	eachByte:
		for at, x := range o {
			for i := range bits.Len8(x) {
				if x>>i&1 != 0 && !yield(8*at+i) {
					break eachByte
				}
			}
		}
	}
}

// cell is a cell under way: bytes of which it is known that they are one.
type cell struct{ octets }

func isLength(n int) bool { return 1 <= n && n <= api.MaxCell }

// cellOf must not outlive the call: the bytes are the caller's.
func cellOf(b []byte) (cell, bool) {
	if !isLength(len(b)) {
		return cell{}, false
	}
	return cell{b}, true
}

// nought is new memory, upon which cells may be put.
func nought(n int) cell {
	need(isLength(n))
	return cell{make(octets, n)}
}

// under is the cell with another one of its length put upon it.
func (c cell) under(b []byte) cell {
	for i, x := range b {
		c.octets[i] ^= x
	}
	return c
}

// folded goes over cells, and hands on what they have come to so far.
func folded(c cell, put func(cell, []byte) cell, l ...[]byte) cell {
	for _, b := range l {
		c = put(c, b)
	}
	return c
}

// lengthOf tells the one length of cells, of none of them 0; it gives up on
// what is no cell, and on cells of unlike length.
func lengthOf(l ...[]byte) int {
	if len(l) == 0 {
		return 0
	}
	n := len(l[0])
	need(isLength(n) && every(func(b []byte) bool { return len(b) == n }, l...))
	return n
}

// every tells whether all of a list are such.
func every[T any](such func(T) bool, l ...T) bool {
	for _, x := range l {
		if !such(x) {
			return false
		}
	}
	return true
}
