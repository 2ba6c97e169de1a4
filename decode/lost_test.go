package decode_test

import (
	"math/rand/v2"
	"slices"
	"testing"

	"palisade/api"
	"palisade/decode"
)

var evenodd3 = form{api.Code{Kind: api.Evenodd, P: 3}, 2, 3, 5}

// theWhole is the stripe of the document's examples.
func theWhole() api.Stripe {
	return api.Stripe{{{1}, {2}}, {{4}, {8}}, {{16}, {32}}, {{21}, {42}}, {{57}, {30}}}
}

// P14.1, P14.2: the document's examples, and what is near them.
func TestRows(t *testing.T) {
	f, s := evenodd3, theWhole()
	for _, lost := range [][]int{nil, {}, {1, 4}, {4, 1}, {0, 1}, {2, 0}, {3, 4}, {2, 3}, {1}, {3}, {4}} {
		decodes(t, f, s, s, lost...)
		decodes(t, f, f.lost(0, s, lost...), s, lost...)
		checked(t, f.code, api.OK, lost...)
	}
	for _, lost := range [][]int{{0, 1, 2}, {2, 1, 0}, {0, 3, 4}, {0, 1, 2, 3, 4}} {
		refused(t, f.code, s, api.ErrMany, lost...)
		checked(t, f.code, api.ErrMany, lost...)
	}
	for _, lost := range [][]int{{5}, {-1}, {1, 5}, {1, 1}, {0, 1, 5}, {0, 1, 2, 0}} {
		refused(t, f.code, s, api.ErrRange, lost...)
		checked(t, f.code, api.ErrRange, lost...)
	}
	blamed(t, f, s, -1)
	s[1] = api.Column{{0}, {2}}
	blamed(t, f, s, 1)
	decodes(t, f, s, theWhole(), 1)
	decodes(t, f, s, theWhole(), 4, 1)
	refused(t, f.code, s, api.ErrWrong)
	refused(t, f.code, s, api.ErrWrong, 0)
	refused(t, f.code, s, api.ErrWrong, 4)
	if o, e := decode.Decode(f.code, s, 0, 4); e != api.OK || same(o, theWhole()) || !f.isWhole(o) {
		t.Errorf("another stripe: %x, error %d", o, e)
	}
}

// P14.1, P14.3, P0.3: all columns that a code can lose, in some order of them,
// whatever stands there, cells of all lengths.
func TestLost(t *testing.T) {
	for _, f := range forms() {
		r := rand.New(rand.NewPCG(uint64(f.cols), 14))
		var wholes []api.Stripe
		for _, length := range []int{1, 2, 3, 8, 33, 63, 64} {
			wholes = append(wholes, f.wholeOf(uint64(length), length))
		}
		wholes = append(wholes, f.noughts(f.cols, 2))
		for n, lost := range f.losses() {
			r.Shuffle(len(lost), func(i, j int) { lost[i], lost[j] = lost[j], lost[i] })
			want := wholes[n%len(wholes)]
			decodes(t, f, f.lost(r.IntN(70), want, lost...), want, lost...)
		}
	}
}

// P14.3: in whatever order lost columns are told, and whatever stands in each of
// them.
func TestOrders(t *testing.T) {
	for _, f := range small() {
		want := f.wholeOf(1, 2)
		for _, list := range f.losses() {
			for _, lost := range orders(list) {
				for n := range 7 {
					decodes(t, f, f.lost(n, want, lost...), want, lost...)
				}
				checked(t, f.code, api.OK, lost...)
			}
		}
	}
}

// P14.1: whole stripes with one bit of data, each of them.
func TestOneBit(t *testing.T) {
	for _, f := range small() {
		for n, at := range f.spots(0, f.data) {
			data := f.noughts(f.data, 2)
			cellOf(data, at)[n%2] = 1 << (n % 8)
			want := f.whole(data)
			for _, lost := range f.losses() {
				decodes(t, f, f.lost(3, want, lost...), want, lost...)
			}
		}
	}
}

// P14.1: all columns of the prime 3, of cells of one bit, with each that may be
// lost: what is told is the whole one of all those that there are that has the
// others; if there is none, that is ErrWrong. Blame is told by the same ones.
func TestEachStripe(t *testing.T) {
	for _, f := range small() {
		if f.code.P > 3 {
			continue
		}
		losses := f.losses()
		var meant []map[string]api.Stripe
		for _, lost := range losses {
			wholes := map[string]api.Stripe{}
			for data := range 1 << (f.data * f.rows) {
				s := f.whole(f.bits(f.data, data))
				wholes[key(s, lost...)] = s
			}
			meant = append(meant, wholes)
		}
		for all := range 1 << (f.cols * f.rows) {
			s, blame := f.bits(f.cols, all), []int{}
			for n, lost := range losses {
				want, is := meant[n][key(s, lost...)]
				if o, e := decode.Decode(f.code, s, lost...); is != (e == api.OK) || !is && e != api.ErrWrong || !same(o, want) {
					t.Errorf("Decode(%v, %x, %v) = %x, error %d, want %x", f.code, s, lost, o, e, want)
				}
				if is && len(lost) < 2 {
					blame = append(blame, append(lost, -1)[0])
				}
			}
			if len(blame) > 0 {
				blamed(t, f, s, blame[0])
			} else {
				notBlamed(t, f.code, s, api.ErrWrong)
			}
		}
	}
}

// bits is columns of cells of one bit each: those of a number.
func (f form) bits(many, all int) api.Stripe {
	return each(many, f.rows, func(col, row int) []byte { return []byte{byte(all >> (col*f.rows + row) & 1)} })
}

// key is the cells of the columns that are not lost.
func key(s api.Stripe, lost ...int) string {
	var b []byte
	for col, c := range s {
		if !slices.Contains(lost, col) {
			b = append(b, slices.Concat(c...)...)
		}
	}
	return string(b)
}

// P14.1: of as many columns lost as can be, the others may be any.
func TestAnyLeft(t *testing.T) {
	for _, f := range forms() {
		for n, lost := range lists(f.cols, f.can()) {
			if f.code.P > 7 && n%7 > 0 {
				continue
			}
			s := f.any(uint64(n), 1+n%3)
			o, e := decode.Decode(f.code, f.lost(n, s, lost...), lost...)
			if e != api.OK || !others(o, s, lost...) || !f.isWhole(o) {
				t.Errorf("Decode(%v, %x, %v) = %x, error %d", f.code, s, lost, o, e)
			}
		}
	}
}

// P14.1, P14.3: with one column less lost than can be, a bit of another one is
// another: each of them is seen.
func TestContradict(t *testing.T) {
	for _, f := range forms() {
		s := f.wholeOf(4, 2)
		for n, lost := range lists(f.cols, f.can()-1) {
			with := f.lost(n, s, lost...)
			for i, at := range f.spots(0, f.cols) {
				if slices.Contains(lost, at.Col) || f.code.P > 3 && (i*31+n)%(f.code.P*f.code.P/4) > 0 {
					continue
				}
				bit := i % 16
				cellOf(with, at)[bit/8] ^= 1 << (bit % 8)
				refused(t, f.code, with, api.ErrWrong, lost...)
				cellOf(with, at)[bit/8] ^= 1 << (bit % 8)
			}
		}
	}
}

// P14.1, P14.3: columns of whole stripes that are lost, and such as are others,
// that together are no more than can be lost: ErrWrong, and the stripe, where just
// these are lost.
func TestContradictMore(t *testing.T) {
	for _, f := range forms() {
		r := rand.New(rand.NewPCG(uint64(f.cols), 141))
		s := f.wholeOf(5, 3)
		for n, list := range f.losses() {
			if len(list) == 0 || f.code.P > 7 && n%7 > 0 {
				continue
			}
			other := 1 + r.IntN(len(list))
			with, lost := f.lost(n, s, list[other:]...), list[other:]
			for _, col := range list[:other] {
				with[col] = f.numbered(r.Uint64(), 1, 3)[0]
			}
			refused(t, f.code, with, api.ErrWrong, lost...)
			decodes(t, f, with, s, list...)
		}
	}
}

// P14.1, P0.3: more columns are lost than can be, whatever stands there.
func TestMany(t *testing.T) {
	for _, f := range forms() {
		s := f.wholeOf(6, 2)
		for many := f.can() + 1; many <= f.cols; many++ {
			for first := range f.cols - many + 1 {
				var lost []int
				for col := range many {
					lost = append(lost, first+col)
				}
				for _, with := range []api.Stripe{s, f.lost(first, s, lost...), make(api.Stripe, f.cols), f.any(1, 65)} {
					refused(t, f.code, with, api.ErrMany, lost...)
				}
				checked(t, f.code, api.ErrMany, lost...)
			}
		}
	}
	for _, f := range small() {
		for many := f.can() + 1; many <= f.cols; many++ {
			for n, lost := range lists(f.cols, many) {
				refused(t, f.code, f.lost(n, f.any(2, 2), lost...), api.ErrMany, lost...)
				checked(t, f.code, api.ErrMany, lost...)
			}
		}
	}
}

// P14.1: what Check tells is what Decode tells of whole stripes.
func TestCheck(t *testing.T) {
	for _, f := range forms() {
		for _, lost := range f.losses() {
			checked(t, f.code, api.OK, lost...)
			slices.Reverse(lost)
			checked(t, f.code, api.OK, lost...)
		}
		if f.code.P > 11 {
			continue
		}
		for _, lost := range lists(f.cols, f.can()+1) {
			checked(t, f.code, api.ErrMany, lost...)
		}
	}
}

// P14.1: each cell of the stripe that is meant.
func TestCell(t *testing.T) {
	for _, f := range forms() {
		s := f.wholeOf(7, 3)
		for n, lost := range f.losses() {
			if f.code.P > 5 && n%97 > 0 {
				continue
			}
			with := f.lost(n, s, lost...)
			for i, at := range f.spots(0, f.cols) {
				if f.code.P > 3 && i%5 > 0 && !slices.Contains(lost, at.Col) {
					continue
				}
				cellIs(t, f, with, at, cellOf(s, at), lost...)
			}
		}
	}
}
