package code_test

import (
	"bytes"
	"math"
	"slices"
	"testing"

	"palisade/api"
	"palisade/code"
)

var rdp3 = form{api.Code{Kind: api.Rdp, P: 3}, 2, 2, 4}

// P9.1, P9.2: the document's examples, and others by hand.
func TestRows(t *testing.T) {
	want := api.Stripe{{{1}, {2}}, {{4}, {8}}, {{5}, {10}}, {{11}, {6}}}
	s := mustFill(t, rdp3, []byte{1, 4, 2, 8}, 1)
	if !same(s, want) {
		t.Errorf("Fill: %v", s)
	}
	o, l, e := code.Change(rdp3.code, s, api.At{Col: 1}, []byte{0})
	wantPlaces := []api.At{{Col: 2, Row: 0}, {Col: 3, Row: 1}}
	wantChanged := api.Stripe{{{1}, {2}}, {{0}, {8}}, {{1}, {10}}, {{11}, {2}}}
	if !same(o, wantChanged) || !slices.Equal(l, wantPlaces) || e != api.OK {
		t.Errorf("Change: %v, %v, error %d", o, l, e)
	}
	notChanged(t, rdp3.code, s, api.At{Col: 2}, []byte{0}, api.ErrRange)
}

// P9.1, P9.2: each Kind of the prime 3, by hand.
func TestKinds(t *testing.T) {
	three := []api.Column{{{1}, {2}}, {{4}, {8}}, {{16}, {32}}}
	rows := []struct {
		kind  api.CodeKind
		data  []api.Column
		made  []api.Column
		bytes string
	}{
		{api.Evenodd, three, []api.Column{{{21}, {42}}, {{57}, {30}}}, "\x01\x04\x10\x02\x08\x20"},
		{api.Rdp, three[:2], []api.Column{{{5}, {10}}, {{11}, {6}}}, "\x01\x04\x02\x08"},
		{api.Star, three, []api.Column{{{21}, {42}}, {{57}, {30}}, {{45}, {54}}}, "\x01\x04\x10\x02\x08\x20"},
	}
	for _, r := range rows {
		c := api.Code{Kind: r.kind, P: 3}
		whole := api.Stripe(slices.Concat(r.data, r.made))
		if s, e := code.Encode(c, r.data); !same(s, whole) || e != api.OK {
			t.Errorf("Encode(%v) = %v, error %d", c, s, e)
		}
		if s, e := code.Fill(c, []byte(r.bytes), 1); !same(s, whole) || e != api.OK {
			t.Errorf("Fill(%v) = %v, error %d", c, s, e)
		}
		if b, e := code.Data(c, whole); string(b) != r.bytes || e != api.OK {
			t.Errorf("Data(%v) = %v, error %d", c, b, e)
		}
		if is, e := code.Check(c, whole); !is || e != api.OK {
			t.Errorf("Check(%v) = %v, error %d", c, is, e)
		}
		noStripe(t, c, r.data)
		noData(t, c, whole)
	}
}

// P9.1, P9.2: any data, of each code, of cells of each length.
func TestAny(t *testing.T) {
	for _, f := range forms() {
		for length := 1; length <= 64; length++ {
			if f.code.P < 11 || length < 3 || length > 62 {
				asMade(t, f, f.numbered(uint64(length), f.data, length))
			}
		}
		asMade(t, f, f.noughts(f.data, 1))
		asMade(t, f, each(f.data, f.rows, func(int, int) []byte { return []byte{0xff, 0xff} }))
	}
}

// P9.1, P9.4: data of one bit alone, at each place: just the parity cells that
// hang on it have it.
func TestOneBit(t *testing.T) {
	for _, f := range forms() {
		data := f.noughts(f.data, 2)
		for n := range f.cells() {
			at := f.place(n)
			c := cellOf(data, at)
			c[n%2] = 1 << (n % 8)
			want := f.noughts(f.cols, 2)
			for _, x := range append(f.touched(at), at) {
				want[x.Col][x.Row][n%2] = c[n%2]
			}
			if s := mustEncode(t, f, data); !same(s, want) {
				t.Errorf("Encode(%v, %x) = %x, want %x", f.code, data, s, want)
			}
			c[n%2] = 0
		}
	}
}

// P9.1, P9.2: codes that may not be, with columns as they would have.
func TestNoCode(t *testing.T) {
	for _, c := range noCodes() {
		refused(t, c, nil)
		for _, p := range []int{3, 5, c.P} {
			if p < 0 || p > 20 {
				continue
			}
			for _, many := range []int{1, p - 1, p, p + 1, p + 2, p + 3} {
				f := form{code: c, rows: max(p-1, 0)}
				refused(t, c, f.noughts(max(many, 0), 1))
			}
		}
		for _, length := range []int{-1, 0, 1, 64, 65} {
			notFilled(t, c, nil, length)
			notFilled(t, c, []byte{1}, length)
		}
	}
}

// P9.1, P9.2: columns of another code.
func TestOtherCode(t *testing.T) {
	for _, f := range forms() {
		for _, other := range forms() {
			s := other.any(1, 2)
			if other.cols != f.cols || other.rows != f.rows {
				noStripe(t, f.code, s)
			}
			if other.data != f.data || other.rows != f.rows {
				noData(t, f.code, s[:other.data])
			}
		}
	}
}

// P9.1, P9.2: no columns at all, and columns of another number than must be.
func TestHowMany(t *testing.T) {
	for _, f := range forms() {
		refused(t, f.code, nil)
		refused(t, f.code, []api.Column{})
		for many := 1; many < 2*f.cols; many++ {
			l := f.noughts(many, 2)
			if many != f.data {
				noData(t, f.code, l)
			}
			if many != f.cols {
				noStripe(t, f.code, l)
			}
		}
	}
}

// P9.1, P9.2: a column with a cell too few or too many, wherever it stands.
func TestHowManyCells(t *testing.T) {
	for _, f := range forms() {
		for _, many := range []int{f.data, f.cols} {
			for at := range many {
				for _, rows := range []int{0, 1, f.rows - 1, f.rows + 1, f.rows + 2, 2 * f.rows} {
					if rows != f.rows {
						l := f.noughts(many, 1)
						l[at] = each(1, rows, func(int, int) []byte { return []byte{0} })[0]
						refused(t, f.code, l)
					}
				}
			}
			refused(t, f.code, make([]api.Column, many))
		}
	}
}

// P9.1, P9.2: a cell that is none, or of another length, at each place; and cells
// that are all none, of one length.
func TestNoCells(t *testing.T) {
	for _, f := range forms() {
		for _, many := range []int{f.data, f.cols} {
			for _, length := range []int{0, 65, 66, 128, 1000} {
				refused(t, f.code, f.noughts(many, length))
			}
			l := f.noughts(many, 2)
			for _, at := range f.spots(0, many) {
				for _, other := range []int{0, 1, 3, 65} {
					l[at.Col][at.Row] = make([]byte, other)
					refused(t, f.code, l)
				}
				l[at.Col][at.Row] = make([]byte, 2)
			}
		}
	}
}

// P9.1, P9.4: bytes, from none to as many as the data cells hold.
func TestFill(t *testing.T) {
	for _, f := range forms() {
		for _, length := range []int{1, 2, 3, 7, 8, 63, 64} {
			room := f.cells() * length
			all := f.octets(f.numbered(uint64(length), f.data, length))
			for _, many := range []int{0, 1, length - 1, length, length + 1, f.data*length - 1, f.data * length,
				f.data*length + 1, room / 2, room - length, room - 1, room} {
				filled(t, f, all[:min(many, room)], length)
			}
			filled(t, f, nil, length)
			notFilled(t, f.code, append(all, 0), length)
			notFilled(t, f.code, make([]byte, room+length), length)
			notFilled(t, f.code, make([]byte, 64*room+1), length)
		}
	}
}

func filled(t *testing.T, f form, b []byte, length int) {
	t.Helper()
	s := mustFill(t, f, b, length)
	if want := f.whole(f.laid(b, length)); !same(s, want) {
		t.Errorf("Fill(%v, %x, %d) = %x, want %x", f.code, b, length, s, want)
	}
	padded := make([]byte, f.cells()*length)
	copy(padded, b)
	if got := mustData(t, f, s); !bytes.Equal(got, padded) {
		t.Errorf("Data of Fill(%v, %x, %d) = %x", f.code, b, length, got)
	}
}

// P9.1: each number of bytes of the least codes.
func TestFillEach(t *testing.T) {
	for _, f := range small() {
		for length := 1; length <= 3; length++ {
			all := f.octets(f.numbered(9, f.data, length))
			for many := range len(all) + 1 {
				filled(t, f, all[:many], length)
			}
		}
	}
}

// P9.1: lengths that no cell has.
func TestNoLength(t *testing.T) {
	for _, f := range forms() {
		for _, length := range []int{
			math.MinInt, math.MinInt + 1, -1 << 32, -64, -1, 0, 65, 66, 128, 1<<8 + 1, 1<<32 + 1,
			math.MaxInt / 6, math.MaxInt/4 + 1, math.MaxInt - 1, math.MaxInt,
		} {
			for _, b := range [][]byte{nil, {}, {1}, make([]byte, 100)} {
				notFilled(t, f.code, b, length)
			}
		}
	}
}

// P9.4: each byte of cells is encoded by itself.
func TestEachByte(t *testing.T) {
	for _, f := range forms() {
		data := f.numbered(4, f.data, 5)
		s := mustEncode(t, f, data)
		for i := range 5 {
			one := func(l []api.Column) []api.Column {
				return each(len(l), f.rows, func(col, row int) []byte { return l[col][row][i : i+1] })
			}
			if o := mustEncode(t, f, one(data)); !same(o, one(s)) {
				t.Errorf("%v, the byte %d: %x, want %x", f.code, i, o, one(s))
			}
		}
	}
}

// P9.4: what Encode, and what Fill makes is whole; so are two of them, put upon
// one another.
func TestWhole(t *testing.T) {
	for _, f := range forms() {
		for seed := range uint64(5) {
			a := mustEncode(t, f, f.numbered(seed, f.data, 6))
			b := mustFill(t, f, f.octets(f.numbered(seed+9, f.data, 6)), 6)
			told(t, f, a, nil)
			told(t, f, b, nil)
			told(t, f, each(f.cols, f.rows, func(col, row int) []byte { return upon(a[col][row], b[col][row]) }), nil)
		}
	}
}
