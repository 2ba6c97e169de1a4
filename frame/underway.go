package frame

import (
	"bytes"

	"palisade/api"
	"palisade/cells"
	"palisade/crc"
)

// behind is how many bytes of a frame lie behind its cell: the address, the
// generation and the seal.
const behind = 3 * wordSize

// sized tells how many bytes a frame has, if there are cells of that length.
func sized(n int) int { return len(sure(cells.Zero(n))) + behind }

// underWay is a frame on its way into bytes, or out of them; then its address is
// the one that is asked for, and all else is still to be told. It must not outlive
// the call: the cell is the caller's.
type underWay struct {
	api.Frame
	size int
}

// laid is new memory.
func (u underWay) laid() []byte {
	b := append(make([]byte, 0, u.size), u.Cell...)
	lay := func(words ...uint32) {
		for x := range octets(words...) {
			b = append(b, x)
		}
	}
	lay(u.Address, u.Generation)
	return sure(crc.Seal(b))
}

// opened tells the frame that lies in bytes. What is asked of them later leans on
// what was asked ahead of it.
func (u underWay) opened(b []byte) api.Frame {
	for _, wrong := range [...]func(underWay, []byte) api.Errno{underWay.empty, underWay.rotten, underWay.strange} {
		e := wrong(u, b)
		need(e == api.OK, e)
	}
	u.Cell = bytes.Clone(u.cellIn(b))
	_, u.Generation = u.wordsIn(b)
	return u.Frame
}

// empty is asked ahead of rotten, as noughts are not sealed either. A frame's bytes
// may be more than a cell has, so layer 2 can't be asked for noughts.
func (u underWay) empty(b []byte) api.Errno {
	if len(b) == u.size && bytes.Count(b, []byte{0}) == u.size {
		return api.ErrEmpty
	}
	return api.OK
}

// rotten asks for the length, too: what is sealed may be of another one.
func (u underWay) rotten(b []byte) api.Errno {
	if len(b) != u.size {
		return api.ErrRotten
	}
	if _, e := crc.Open(b); e != api.OK {
		return api.ErrRotten
	}
	return api.OK
}

func (u underWay) strange(b []byte) api.Errno {
	if address, _ := u.wordsIn(b); address != u.Address {
		return api.ErrStrange
	}
	return api.OK
}

func (u underWay) cellIn(b []byte) []byte { return b[:u.size-behind] }

func (u underWay) wordsIn(b []byte) (address, generation uint32) {
	words := b[u.size-behind:]
	return wordIn(words), wordIn(words[wordSize:])
}
