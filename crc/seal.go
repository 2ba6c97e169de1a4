package crc

// sealSize is how many bytes a sum takes behind what it seals.
const sealSize = 4

// word is a sum as it is laid behind bytes, the lowest byte ahead.
type word uint32

// bytes are an array, so that they can be held against a tail at once.
func (w word) bytes() [sealSize]byte {
	return [sealSize]byte{byte(w), byte(w >> 8), byte(w >> 16), byte(w >> 24)}
}

// standsIn tells whether a tail that was cut off, just as long as a seal, is
// this word's.
func (w word) standsIn(tail []byte) bool { return [sealSize]byte(tail) == w.bytes() }

// seal is bytes under way to be sealed, or to be held against their seal. It
// must not outlive the call: the body is the caller's.
type seal struct {
	word
	body []byte
}

func sealOf(body []byte) seal { return seal{word(Sum(body)), body} }

// sealed is new memory, the body with its word behind.
func (s seal) sealed() []byte {
	w := s.bytes()
	return append(copied(s.body, sealSize), w[:]...)
}

// cutOff parts a list ahead of its last n; not, if it has fewer.
func cutOff[T any](l []T, n int) (ahead, behind []T, ok bool) {
	at := len(l) - n
	if at < 0 {
		return nil, nil, false
	}
	return l[:at], l[at:], true
}

// copied is new memory even for an empty list (slices.Clone would keep the
// caller's array behind it), with just as much room as is asked for.
func copied(b []byte, spare int) []byte {
	return append(make([]byte, 0, len(b)+spare), b...)
}
