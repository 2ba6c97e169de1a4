package crc

import "iter"

// reversed is the polynomial of CRC-32C, its highest power at the lowest bit.
const reversed uint32 = 0x82f63b78

// sumBehind starts from the sum of what lies ahead; that of nothing is 0, so
// one way serves Sum and More.
func sumBehind(sum uint32, l ...[]byte) uint32 {
	put := folding(sum)
	for b := range eachByte(l...) {
		sum = put(b)
	}
	return sum
}

// eachByte goes over the bytes of lists as if they were one, so that a sum
// can't hang on where they are parted.
func eachByte(l ...[]byte) iter.Seq[byte] {
	return func(yield func(byte) bool) {
	lists:
		for _, b := range l {
			for _, x := range b {
				if !yield(x) {
					break lists
				}
			}
		}
	}
}

// folding hands out what takes byte by byte and tells the sum so far. The word
// and the shares stay in it, so that the shares are made once for all bytes.
func folding(sum uint32) func(byte) uint32 {
	word, share := ^sum, halfByteShares()
	return func(b byte) uint32 {
		word ^= uint32(b)
		word = word>>4 ^ share[word&15]
		word = word>>4 ^ share[word&15]
		return ^word
	}
}

// halfByteShares tells for each half byte what its four bits put upon the word
// once they have left it. Half bytes, as a whole byte's 256 shares would take
// longer to make than a frame takes to sum.
func halfByteShares() [16]uint32 {
	var share [16]uint32
	for i := range share {
		word := uint32(i)
		for range 4 {
			word = halved(word)
		}
		share[i] = word
	}
	return share
}

// halved is the document's step for one bit, which is put upon the word's
// lowest one beforehand.
func halved(word uint32) uint32 {
	if word&1 == 0 {
		return word >> 1
	}
	return word>>1 ^ reversed
}
