package code_test

import (
	"math"
	"math/rand/v2"
	"slices"
	"testing"

	"palisade/api"
	"palisade/code"
)

// P9.2: of Rdp that of diagonals is held against the rows that are there.
func TestWrongRows(t *testing.T) {
	rows := []struct {
		s    api.Stripe
		want []api.At
	}{
		{api.Stripe{{{1}, {2}}, {{4}, {8}}, {{5}, {10}}, {{11}, {6}}}, nil},
		{api.Stripe{{{1}, {2}}, {{4}, {8}}, {{5}, {10}}, {{11}, {1}}}, []api.At{{Col: 3, Row: 1}}},
		{api.Stripe{{{1}, {2}}, {{4}, {8}}, {{5}, {11}}, {{11}, {6}}}, []api.At{{Col: 2, Row: 1}, {Col: 3, Row: 0}}},
		{api.Stripe{{{1}, {2}}, {{4}, {8}}, {{5}, {11}}, {{10}, {6}}}, []api.At{{Col: 2, Row: 1}}},
		{api.Stripe{{{1}, {2}}, {{4}, {8}}, {{4}, {10}}, {{11}, {6}}}, []api.At{{Col: 2, Row: 0}}},
		{api.Stripe{{{1}, {2}}, {{4}, {9}}, {{5}, {10}}, {{11}, {6}}}, []api.At{{Col: 2, Row: 1}}},
		{api.Stripe{{{0}, {2}}, {{4}, {8}}, {{5}, {10}}, {{11}, {6}}}, []api.At{{Col: 2, Row: 0}, {Col: 3, Row: 0}}},
	}
	for _, r := range rows {
		told(t, rdp3, r.s, r.want)
	}
}

// P9.2: stripes that nobody made, and noughts but for one cell.
func TestAnyStripe(t *testing.T) {
	for _, f := range forms() {
		for _, length := range []int{1, 2, 31, 63, 64} {
			asThere(t, f, f.any(uint64(length), length))
		}
		s := f.noughts(f.cols, 1)
		for _, at := range f.spots(0, f.cols) {
			cellOf(s, at)[0] = 0x80
			told(t, f, s, f.wrong(s))
			cellOf(s, at)[0] = 0
		}
	}
}

// P9.2: one bit of a whole stripe is another one, at each place: just the cells
// that it makes wrong are told, never none.
func TestOneCellWrong(t *testing.T) {
	for _, f := range forms() {
		s := f.whole(f.numbered(3, f.data, 2))
		for n, at := range f.spots(0, f.cols) {
			c, bit := cellOf(s, at), n%16
			c[bit/8] ^= 1 << (bit % 8)
			want := f.wrong(s)
			if told(t, f, s, want); len(want) == 0 {
				t.Errorf("%v: another cell at %v makes nothing wrong", f.code, at)
			}
			c[bit/8] ^= 1 << (bit % 8)
		}
		told(t, f, s, nil)
	}
}

// P9.2: some parity cells are others, where the data are as they were.
func TestSomeWrong(t *testing.T) {
	for _, f := range forms() {
		r := rand.New(rand.NewPCG(uint64(f.cols), 9))
		for range 6 {
			s := f.whole(f.numbered(r.Uint64(), f.data, 2))
			for _, at := range f.spots(f.data, f.cols) {
				if r.IntN(3) == 0 {
					cellOf(s, at)[r.IntN(2)] ^= byte(1 + r.IntN(255))
				}
			}
			told(t, f, s, f.wrong(s))
		}
	}
}

// P9.2: what is wrong may be left behind each of its places: nothing is told
// behind that. It may be gone over again, within itself, too.
func TestWrongLeftAndAgain(t *testing.T) {
	for _, f := range forms() {
		s := f.any(2, 2)
		places, want := code.Wrong(f.code, s), f.wrong(s)
		for stop := range want {
			var got []api.At
			places(func(at api.At) bool {
				got = append(got, at)
				return len(got) <= stop
			})
			if !slices.Equal(got, want[:stop+1]) {
				t.Errorf("%v, left behind %d: %v, want %v", f.code, stop, got, want[:stop+1])
			}
		}
		rounds := 0
		for at := range places {
			if at != want[rounds] {
				t.Errorf("%v: %v, want %v", f.code, at, want[rounds])
			}
			rounds++
			if got := slices.Collect(places); !slices.Equal(got, want) {
				t.Errorf("%v, within itself: %v, want %v", f.code, got, want)
			}
		}
		if got := slices.Collect(places); rounds != len(want) || !slices.Equal(got, want) {
			t.Errorf("%v, again: %v, want %v; %d rounds", f.code, got, want, rounds)
		}
	}
}

// P9.2, P9.4: each data cell becomes another one, of whole stripes and of such as
// are not: that of a whole one is the whole one of the other data, of another one
// the same places are wrong as ahead.
func TestChange(t *testing.T) {
	for _, f := range forms() {
		whole, other := f.whole(f.numbered(5, f.data, 3)), f.any(6, 3)
		news := f.numbered(7, f.data, 3)
		wrong := f.wrong(other)
		for n := range f.cells() {
			at := f.place(n)
			c := cellOf(news, at)
			changed(t, f, whole, at, c)
			changed(t, f, other, at, c)
			data := copied(whole[:f.data])
			data[at.Col][at.Row] = c
			if o := mustChange(t, f, whole, at, c); !same(o, f.whole(data)) {
				t.Errorf("Change(%v) at %v of a whole one is not that of the data: %x", f.code, at, o)
			}
			told(t, f, mustChange(t, f, other, at, c), wrong)
		}
	}
}

// P9.2: cells of each length, and cells that become what they were: the places
// are told all the same.
func TestChangeLengths(t *testing.T) {
	for _, f := range forms() {
		for _, length := range []int{1, 2, 8, 63, 64} {
			s := f.any(uint64(length), length)
			r := rand.New(rand.NewPCG(uint64(length), 9))
			for _, at := range []api.At{{}, {Col: f.data - 1}, {Row: f.rows - 1}, {Col: f.data - 1, Row: f.rows - 1}} {
				changed(t, f, s, at, octets(r, length))
				changed(t, f, s, at, make([]byte, length))
				changed(t, f, s, at, cellOf(s, at))
			}
		}
	}
}

// P9.2: cells that may not be, or of another length: told ahead of a place that
// is none.
func TestNoCell(t *testing.T) {
	for _, f := range forms() {
		for _, length := range []int{1, 2, 63, 64} {
			s := f.noughts(f.cols, length)
			for _, other := range []int{0, 1, 2, 3, 62, 63, 64, 65, 128, 1000} {
				if other == length {
					continue
				}
				for _, at := range []api.At{{}, {Col: f.data - 1}, {Col: f.data}, {Col: -1}, {Row: f.rows}, {Col: f.cols}} {
					notChanged(t, f.code, s, at, make([]byte, other), api.ErrArg)
				}
			}
			notChanged(t, f.code, s, api.At{}, nil, api.ErrArg)
			notChanged(t, f.code, s, api.At{Col: f.cols}, nil, api.ErrArg)
		}
	}
}

// P9.2: places that are no data cell's.
func TestNoPlace(t *testing.T) {
	far := []int{math.MinInt, math.MinInt + 1, -1 << 32, -1 << 31, -2, -1, 1 << 8, 1 << 31, 1 << 32, math.MaxInt - 1, math.MaxInt}
	for _, f := range forms() {
		s := f.any(1, 2)
		none := func(col, row int) {
			notChanged(t, f.code, s, api.At{Col: col, Row: row}, []byte{1, 2}, api.ErrRange)
		}
		for _, at := range f.spots(f.data, f.cols) {
			none(at.Col, at.Row)
		}
		for col := range f.cols + 2 {
			for _, row := range append(far, f.rows, f.rows+1, 2*f.rows) {
				none(col, row)
			}
		}
		for row := range f.rows + 2 {
			for _, col := range append(far, f.cols, f.cols+1) {
				none(col, row)
			}
		}
		for _, col := range far {
			for _, row := range far {
				none(col, row)
			}
		}
	}
}

// P9.4: a cell that is changed, and back, leaves the stripe, whole or not.
func TestBack(t *testing.T) {
	for _, f := range forms() {
		news := f.numbered(8, f.data, 2)
		for _, s := range []api.Stripe{f.whole(f.numbered(5, f.data, 2)), f.any(6, 2)} {
			for n := range f.cells() {
				at := f.place(n)
				back := mustChange(t, f, mustChange(t, f, s, at, cellOf(news, at)), at, cellOf(s, at))
				if !same(back, s) {
					t.Errorf("%v, changed at %v, and back: %x, want %x", f.code, at, back, s)
				}
			}
		}
	}
}

// P9.4: two cells may be changed in either order.
func TestEitherOrder(t *testing.T) {
	for _, f := range small() {
		s, news := f.any(6, 2), f.numbered(8, f.data, 2)
		for n := range f.cells() {
			for m := range n {
				a, b := f.place(n), f.place(m)
				ab := mustChange(t, f, mustChange(t, f, s, a, cellOf(news, a)), b, cellOf(news, b))
				ba := mustChange(t, f, mustChange(t, f, s, b, cellOf(news, b)), a, cellOf(news, a))
				if !same(ab, ba) {
					t.Errorf("%v, changed at %v and %v: %x, the other way round %x", f.code, a, b, ab, ba)
				}
			}
		}
	}
}

// P9.4: all cells changed, one by one, make the whole stripe of the other data.
func TestChangeAll(t *testing.T) {
	for _, f := range forms() {
		s, news := f.whole(f.numbered(5, f.data, 2)), f.numbered(8, f.data, 2)
		for n := range f.cells() {
			s = mustChange(t, f, s, f.place(n), cellOf(news, f.place(n)))
		}
		if want := f.whole(news); !same(s, want) {
			t.Errorf("%v: %x, want %x", f.code, s, want)
		}
	}
}
