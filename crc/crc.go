// Package crc is layer 1: a sum of 32 bits over bytes, and bytes that are sealed by it; see shared/doc/01-crc.md.
package crc

import "palisade/api"

// Sum tells the sum of all bytes of the lists, one behind the other.
func Sum(l ...[]byte) uint32 { return sumBehind(0, l...) }

// More tells the sum of bytes whose sum is told, and of others behind them.
func More(sum uint32, b []byte) uint32 { return sumBehind(sum, b) }

// Seal tells the bytes with their sum behind them.
func Seal(b []byte) ([]byte, api.Errno) {
	if len(b) > api.MaxText {
		return nil, api.ErrLong
	}
	return sealOf(b).sealed(), api.OK
}

// Open tells the bytes ahead of the seal. It has no bound: what may be sealed
// is bounded by Seal alone, and longer bytes may carry their sum all the same.
func Open(b []byte) ([]byte, api.Errno) {
	body, tail, ok := cutOff(b, sealSize)
	if !ok || !sealOf(body).standsIn(tail) {
		return nil, api.ErrSum
	}
	return copied(body, 0), api.OK
}
