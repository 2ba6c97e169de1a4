package evenodd

import (
	"bytes"
	"slices"
	"testing"

	"palisade/api"
)

// A diagonal goes on past the row that has no cells, may be left at any time,
// and gone over again.
func TestDiagonal(t *testing.T) {
	c := columns{3, []api.Column{{{1}, {2}}, {{4}, {8}}, {{16}, {32}}}}
	for from, want := range [][][]byte{{{1}, {32}}, {{2}, {4}}, {{8}, {16}}} {
		along := c.diagonal(from)
		for stop := range want {
			var got [][]byte
			along(func(cell []byte) bool {
				got = append(got, cell)
				return len(got) <= stop
			})
			if !slices.EqualFunc(got, want[:stop+1], bytes.Equal) {
				t.Errorf("the diagonal %d, left behind %d: %x", from, stop, got)
			}
		}
		if got := slices.Collect(along); !slices.EqualFunc(got, want, bytes.Equal) {
			t.Errorf("the diagonal %d, again: %x, want %x", from, got, want)
		}
	}
}
