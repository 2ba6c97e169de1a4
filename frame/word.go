package frame

import (
	"cmp"
	"iter"
)

// wordSize is how many bytes a word takes.
const wordSize = 4

// octets goes over the bytes of words, of each the lowest one ahead.
func octets(words ...uint32) iter.Seq[byte] {
	return func(yield func(byte) bool) {
	eachWord:
		for _, word := range words {
			for range wordSize {
				if !yield(byte(word)) {
					break eachWord
				}
				word >>= 8
			}
		}
	}
}

// wordIn tells the word that bytes begin with.
func wordIn(b []byte) uint32 {
	var word uint32
	for i, x := range b[:wordSize] {
		word |= uint32(x) << (8 * i)
	}
	return word
}

// greatest tells which one of a list has the greatest key, the first of several;
// -1, if none has one.
func greatest[T any, K cmp.Ordered](key func(T) (K, bool), l ...T) int {
	var best K
	at := -1
	for i, x := range l {
		if k, ok := key(x); ok && (at < 0 || k > best) {
			best, at = k, i
		}
	}
	return at
}
