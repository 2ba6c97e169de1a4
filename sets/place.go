package sets

import (
	"slices"

	"palisade/api"
)

// place is a place that knows which of two is ahead.
type place api.At

func (a place) before(b place) bool {
	return a.Col < b.Col || a.Col == b.Col && a.Row < b.Row
}

// told tells places as the callers know them. All that is answered goes through
// it, so that nobody who gathers places need know of their order.
func told(l []place) []api.At {
	odd := oddInOrder(place.before, l)
	answer := make([]api.At, len(odd))
	for i, at := range odd {
		answer[i] = api.At(at)
	}
	return answer
}

// oddInOrder puts a list in order, and drops what is in it an even number of
// times: put upon itself, a cell is as if it were not there.
func oddInOrder[T any](before func(T, T) bool, l []T) []T {
	slices.SortFunc(l, func(a, b T) int {
		switch {
		case before(a, b):
			return -1
		case before(b, a):
			return 1
		}
		return 0
	})
	var odd []T
	for _, x := range l {
		if n := len(odd); n > 0 && !before(odd[n-1], x) {
			odd = odd[:n-1]
		} else {
			odd = append(odd, x)
		}
	}
	return odd
}
