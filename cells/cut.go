package cells

import "slices"

// filledUp is new memory, the bytes with noughts behind up to a whole cell.
func filledUp(b []byte, n int) []byte {
	many := (len(b) + n - 1) / n
	return append(make([]byte, 0, many*n), b...)[:many*n]
}

// cutUp parts whole cells. Each is cut off from the room behind it, too, so
// that what is appended to a cell doesn't run into the next one.
func cutUp(b []byte, n int) [][]byte {
	l := make([][]byte, len(b)/n)
	for i := range l {
		l[i] = b[i*n : (i+1)*n : (i+1)*n]
	}
	return l
}

// glued asks for the numbers ahead of the bytes, so that no memory is taken for
// what is refused by them. Of no cells nothing can be spare: there a cell's
// length is taken as 1.
func glued(l [][]byte, many int) []byte {
	n := lengthOf(l...)
	spare := len(l)*n - many
	need(many >= 0 && 0 <= spare && spare < max(n, 1))
	b := slices.Concat(l...)
	need(octets(b[many:]).haveNoBit())
	return b[:many:many]
}
