package decode_test

import (
	"math/rand/v2"
	"slices"
	"testing"

	"palisade/api"
	"palisade/decode"
)

// P14.2: nobody is to blame for a stripe that is whole.
func TestBlameWhole(t *testing.T) {
	for _, f := range forms() {
		for _, length := range []int{1, 2, 63, 64} {
			blamed(t, f, f.wholeOf(uint64(length), length), -1)
			blamed(t, f, f.noughts(f.cols, length), -1)
		}
	}
}

// P14.2, P14.3: one column has other cells: some, all, or just one.
func TestBlame(t *testing.T) {
	for _, f := range forms() {
		r := rand.New(rand.NewPCG(uint64(f.cols), 142))
		s := f.wholeOf(1, 4)
		for col := range f.cols {
			with, row := api.Stripe(copied(s)), r.IntN(f.rows)
			with[col][row][r.IntN(4)] ^= 1 << r.IntN(8)
			blamed(t, f, with, col)
			with[col] = f.numbered(r.Uint64(), 1, 4)[0]
			blamed(t, f, with, col)
			with[col] = slices.Clone(s[(col+1)%f.cols])
			blamed(t, f, with, col)
			with[col] = f.noughts(1, 4)[0]
			blamed(t, f, with, col)
		}
	}
}

// P14.2: each bit of cells of one byte is another one.
func TestBlameBit(t *testing.T) {
	for _, f := range small() {
		s := f.wholeOf(2, 1)
		for _, at := range f.spots(0, f.cols) {
			for bit := range 8 {
				cellOf(s, at)[0] ^= 1 << bit
				blamed(t, f, s, at.Col)
				cellOf(s, at)[0] ^= 1 << bit
			}
		}
	}
}

// P14.2: STAR has no whole stripe that is another one in less than four columns:
// where two columns have other cells, none alone is to blame.
func TestBlameTwo(t *testing.T) {
	for _, f := range forms() {
		s := f.wholeOf(3, 2)
		for n, l := range lists(f.cols, 2) {
			if f.code.Kind != api.Star || f.code.P > 7 && n%11 > 0 {
				continue
			}
			with := api.Stripe(copied(s))
			for _, col := range l {
				with[col][n%f.rows][n%2] ^= 0x10
			}
			notBlamed(t, f.code, with, api.ErrWrong)
		}
	}
}

// P14.2: where two columns have other cells, or all: who is to blame is the column
// without which the others don't contradict one another.
func TestBlameAny(t *testing.T) {
	for _, f := range forms() {
		stripes := []api.Stripe{f.any(1, 1), f.any(2, 2), f.noughts(f.cols, 1)}
		for n, l := range lists(f.cols, 2) {
			if f.code.P > 7 && n%17 > 0 {
				continue
			}
			one, both := f.noughts(f.cols, 1), f.wholeOf(4, 1)
			one[l[0]][0][0], one[l[1]][f.rows-1][0] = 1, 1
			both[l[0]], both[l[1]] = both[l[1]], both[l[0]]
			stripes = append(stripes, one, both)
		}
		for _, s := range stripes {
			want := -2
			if f.isWhole(s) {
				want = -1
			}
			for col := 0; col < f.cols && want < -1; col++ {
				if _, e := decode.Decode(f.code, s, col); e == api.OK {
					want = col
				}
			}
			if want == -2 {
				notBlamed(t, f.code, s, api.ErrWrong)
			} else {
				blamed(t, f, s, want)
			}
		}
	}
}
