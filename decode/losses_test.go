package decode_test

import (
	"math"
	"slices"
	"testing"

	"palisade/api"
	"palisade/decode"
)

// choices is how many lists of so many columns there are.
func choices(cols, many int) int {
	n := 1
	for i := range many {
		n = n * (cols - i) / (i + 1)
	}
	return n
}

// P14.2: as many lists as there are, each rising, each behind the one ahead of it:
// that is all of them, in order.
func TestLosses(t *testing.T) {
	for _, f := range forms() {
		for many := range f.cols + 1 {
			rounds, ahead := 0, []int{-1}
			for l := range decode.Losses(f.code, many) {
				col := -1
				for _, next := range l {
					if next <= col || next >= f.cols {
						t.Fatalf("Losses(%v, %d) tells %v", f.code, many, l)
					}
					col = next
				}
				if len(l) != many || many > 0 && slices.Compare(ahead, l) >= 0 {
					t.Fatalf("Losses(%v, %d) tells %v behind %v", f.code, many, l, ahead)
				}
				rounds, ahead = rounds+1, l
			}
			if want := choices(f.cols, many); rounds != want {
				t.Errorf("Losses(%v, %d) tells %d lists, want %d", f.code, many, rounds, want)
			}
		}
	}
}

// P14.2: the document's example, and others by hand.
func TestLossesRows(t *testing.T) {
	rdp3 := api.Code{Kind: api.Rdp, P: 3}
	rows := []struct {
		many int
		want [][]int
	}{
		{0, [][]int{{}}},
		{1, [][]int{{0}, {1}, {2}, {3}}},
		{2, [][]int{{0, 1}, {0, 2}, {0, 3}, {1, 2}, {1, 3}, {2, 3}}},
		{3, [][]int{{0, 1, 2}, {0, 1, 3}, {0, 2, 3}, {1, 2, 3}}},
		{4, [][]int{{0, 1, 2, 3}}},
		{5, nil},
		{-1, nil},
	}
	for _, r := range rows {
		if l := slices.Collect(decode.Losses(rdp3, r.many)); !slices.EqualFunc(l, r.want, slices.Equal) {
			t.Errorf("Losses(%v, %d): %v, want %v", rdp3, r.many, l, r.want)
		}
	}
}

// P14.2: nothing of a code that may not be, of a number below 0, of more than there
// are; the iterator is there all the same.
func TestNoLosses(t *testing.T) {
	nothing := func(c api.Code, many int) {
		t.Helper()
		for l := range decode.Losses(c, many) {
			t.Fatalf("Losses(%v, %d) tells %v", c, many, l)
		}
	}
	for _, c := range noCodes() {
		for _, many := range []int{math.MinInt, -1, 0, 1, 2, 3, 1 << 32, math.MaxInt} {
			nothing(c, many)
		}
	}
	for _, f := range forms() {
		for _, many := range noColumns(f.cols) {
			if many != f.cols {
				nothing(f.code, many)
			}
		}
		nothing(f.code, 1<<32+f.can())
		nothing(f.code, -1<<32+f.can())
		nothing(f.code, 21)
	}
}

// P14.2: losses may be left behind each list: nothing is told behind that. They may
// be gone over again, within themselves, too.
func TestLossesLeftAndAgain(t *testing.T) {
	for _, f := range small() {
		for many := range f.cols + 1 {
			all := decode.Losses(f.code, many)
			want := slices.Collect(decode.Losses(f.code, many))
			for stop := range want {
				var got [][]int
				all(func(l []int) bool {
					got = append(got, l)
					return len(got) <= stop
				})
				if !slices.EqualFunc(got, want[:stop+1], slices.Equal) {
					t.Errorf("%v, %d, left behind %d: %v", f.code, many, stop, got)
				}
			}
			rounds := 0
			for l := range all {
				if !slices.Equal(l, want[rounds]) {
					t.Errorf("%v: %v, want %v", f.code, l, want[rounds])
				}
				rounds++
				if again := slices.Collect(all); !slices.EqualFunc(again, want, slices.Equal) {
					t.Errorf("%v, %d, within themselves: %v", f.code, many, again)
				}
			}
			if again := slices.Collect(all); rounds != len(want) || !slices.EqualFunc(again, want, slices.Equal) {
				t.Errorf("%v, %d, again: %v; %d rounds", f.code, many, again, rounds)
			}
		}
	}
}

// P14.2, and the rules: each list is new memory: what is done to it, room behind it
// included, is seen in no other one, and not by what is told later.
func TestLossesNewMemory(t *testing.T) {
	for _, f := range small() {
		for many := range f.cols + 1 {
			want := slices.Collect(decode.Losses(f.code, many))
			var kept, were [][]int
			for l := range decode.Losses(f.code, many) {
				if !slices.Equal(l, want[len(kept)]) {
					t.Errorf("%v, %d: %v, want %v", f.code, many, l, want[len(kept)])
				}
				if len(kept)%2 > 0 {
					for i := range l[:cap(l)] {
						l[:cap(l)][i] = -9
					}
				}
				kept, were = append(kept, l), append(were, slices.Clone(l))
			}
			for n, l := range kept {
				if !slices.Equal(l, were[n]) {
					t.Errorf("%v, %d: the list %d is %v, was %v", f.code, many, n, l, were[n])
				}
				for i := range l[:cap(l)] {
					l[:cap(l)][i] = -9
				}
				were[n] = slices.Clone(l)
			}
		}
	}
}
