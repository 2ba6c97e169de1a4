package sets

import (
	"slices"
	"testing"
)

// P5.1: on what a place hangs in two ways it does not hang. No code has such a
// one, so that the exported calls can't show it.
func TestOddInOrder(t *testing.T) {
	rows := []struct{ l, want []place }{
		{nil, nil},
		{[]place{{1, 1}}, []place{{1, 1}}},
		{[]place{{1, 1}, {1, 1}}, nil},
		{[]place{{2, 0}, {1, 5}, {1, 0}}, []place{{1, 0}, {1, 5}, {2, 0}}},
		{[]place{{1, 1}, {0, 3}, {1, 1}}, []place{{0, 3}}},
		{[]place{{1, 1}, {0, 3}, {1, 1}, {0, 3}, {1, 1}}, []place{{1, 1}}},
		{[]place{{0, 3}, {1, 1}, {0, 3}, {0, 3}, {1, 1}}, []place{{0, 3}}},
	}
	for _, r := range rows {
		if got := oddInOrder(place.before, slices.Clone(r.l)); !slices.Equal(got, r.want) {
			t.Errorf("of %v: %v, want %v", r.l, got, r.want)
		}
	}
}
