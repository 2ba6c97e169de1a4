package code_test

import (
	"bytes"
	"math"
	"math/rand/v2"
	"slices"
	"testing"

	"palisade/api"
	"palisade/code"
)

// form is what a code has. The tests reckon all of it by the document's words:
// they don't ask the layers below.
type form struct {
	code             api.Code
	rows, data, cols int
}

// theirs is the primes by hand.
var theirs = []int{3, 5, 7, 11, 13, 17}

func forms() []form {
	var l []form
	for _, p := range theirs {
		l = append(l,
			form{api.Code{Kind: api.Evenodd, P: p}, p - 1, p, p + 2},
			form{api.Code{Kind: api.Rdp, P: p}, p - 1, p - 1, p + 1},
			form{api.Code{Kind: api.Star, P: p}, p - 1, p, p + 3})
	}
	return l
}

// small is those forms whose cells may be gone over by pairs.
func small() []form {
	return slices.DeleteFunc(forms(), func(f form) bool { return f.code.P > 5 })
}

// noCodes is codes that may not be: primes and Kinds near and far off, and such
// as would be one if they were cut to fewer bits.
func noCodes() []api.Code {
	var l []api.Code
	for _, p := range []int{
		math.MinInt, math.MinInt + 3, -1<<32 + 3, -1 << 31, -17, -5, -3, -2, -1,
		0, 1, 2, 4, 6, 8, 9, 10, 12, 14, 15, 16, 18, 19, 23, 29,
		1<<8 + 3, 1<<16 + 5, 1<<31 - 1, 1<<32 + 3, 1<<32 + 17, math.MaxInt,
	} {
		for kind := api.Evenodd; kind <= api.Star; kind++ {
			l = append(l, api.Code{Kind: kind, P: p})
		}
	}
	for _, kind := range []api.CodeKind{math.MinInt, -1<<32 + 1, -3, -2, -1, 0, 4, 5, 1<<8 + 1, 1<<32 + 2, math.MaxInt} {
		for _, p := range append(theirs, 0, 4) {
			l = append(l, api.Code{Kind: kind, P: p})
		}
	}
	return l
}

// cells is how many data cells there are.
func (f form) cells() int { return f.data * f.rows }

// place is the place of the data cell of a number.
func (f form) place(n int) api.At { return api.At{Col: n % f.data, Row: n / f.data} }

// spots is the places of some columns, by Col, of one Col by Row.
func (f form) spots(from, to int) []api.At {
	var l []api.At
	for col := from; col < to; col++ {
		for row := range f.rows {
			l = append(l, api.At{Col: col, Row: row})
		}
	}
	return l
}

func (f form) diagonal(at api.At) int { return (at.Col + at.Row) % f.code.P }
func (f form) slant(at api.At) int    { return (at.Row - at.Col + 2*f.code.P) % f.code.P }

// member tells whether a cell is one of those of which another one is made.
func (f form) member(at, made api.At) bool {
	last, data, rows := f.code.P-1, at.Col < f.data, at.Col == f.data
	switch made.Col - f.data {
	case 0:
		return data && at.Row == made.Row
	case 1:
		if f.code.Kind == api.Rdp {
			return (data || rows) && f.diagonal(at) == made.Row
		}
		return data && (f.diagonal(at) == made.Row || f.diagonal(at) == last)
	case 2:
		return data && (f.slant(at) == made.Row || f.slant(at) == last)
	}
	return false
}

// sum is the members of a cell, put upon one another.
func (f form) sum(s []api.Column, made api.At) []byte {
	c := make([]byte, len(s[0][0]))
	for _, at := range f.spots(0, min(len(s), made.Col)) {
		if f.member(at, made) {
			c = upon(c, cellOf(s, at))
		}
	}
	return c
}

// whole is data with what is made of them: column by column, as of Rdp the one
// of rows is a member of that of diagonals.
func (f form) whole(data []api.Column) api.Stripe {
	s := api.Stripe(copied(data))
	for col := f.data; col < f.cols; col++ {
		var made api.Column
		for row := range f.rows {
			made = append(made, f.sum(s, api.At{Col: col, Row: row}))
		}
		s = append(s, made)
	}
	return s
}

// wrong is the places of parity cells that are not what their members make.
func (f form) wrong(s api.Stripe) []api.At {
	return slices.DeleteFunc(f.spots(f.data, f.cols), func(at api.At) bool {
		return bytes.Equal(cellOf(s, at), f.sum(s, at))
	})
}

// touched is the parity cells that hang on a data cell.
func (f form) touched(at api.At) []api.At {
	row := api.At{Col: f.data, Row: at.Row}
	return slices.DeleteFunc(f.spots(f.data, f.cols), func(made api.At) bool {
		through := f.code.Kind == api.Rdp && f.member(row, made)
		return f.member(at, made) == through
	})
}

// octets is the data, by the numbers of their cells.
func (f form) octets(s []api.Column) []byte {
	var b []byte
	for n := range f.cells() {
		b = append(b, cellOf(s, f.place(n))...)
	}
	return b
}

// laid is columns of data that begin with bytes.
func (f form) laid(b []byte, length int) []api.Column {
	data := f.noughts(f.data, length)
	for i, x := range b {
		cellOf(data, f.place(i/length))[i%length] = x
	}
	return data
}

func (f form) noughts(many, length int) []api.Column {
	return each(many, f.rows, func(int, int) []byte { return make([]byte, length) })
}

// numbered is columns whose cells hang on the seed alone.
func (f form) numbered(seed uint64, many, length int) []api.Column {
	r := rand.New(rand.NewPCG(seed, uint64(f.code.P*4)+uint64(f.code.Kind)))
	return each(many, f.rows, func(int, int) []byte { return octets(r, length) })
}

// any is a stripe that nobody made.
func (f form) any(seed uint64, length int) api.Stripe { return f.numbered(seed, f.cols, length) }

func octets(r *rand.Rand, length int) []byte {
	c := make([]byte, length)
	for i := range c {
		c[i] = byte(r.Uint32())
	}
	return c
}

// each is columns whose cells are told by their places.
func each(many, rows int, cell func(col, row int) []byte) []api.Column {
	l := make([]api.Column, many)
	for col := range l {
		for row := range rows {
			l[col] = append(l[col], cell(col, row))
		}
	}
	return l
}

func cellOf(s []api.Column, at api.At) []byte { return s[at.Col][at.Row] }

// upon is two cells put upon one another.
func upon(a, b []byte) []byte {
	c := make([]byte, len(a))
	for i := range a {
		c[i] = a[i] ^ b[i]
	}
	return c
}

// copied is columns with nothing in common with those they are a copy of.
func copied(l []api.Column) []api.Column {
	other := make([]api.Column, len(l))
	for i, col := range l {
		for _, c := range col {
			other[i] = append(other[i], slices.Clone(c))
		}
	}
	return other
}

func same(a, b []api.Column) bool {
	return slices.EqualFunc(a, b, func(x, y api.Column) bool {
		return slices.EqualFunc(x, y, bytes.Equal)
	})
}

func mustEncode(t *testing.T, f form, data []api.Column) api.Stripe {
	t.Helper()
	s, e := code.Encode(f.code, data)
	if e != api.OK {
		t.Fatalf("Encode of %v: error %d", f.code, e)
	}
	return s
}

func mustFill(t *testing.T, f form, b []byte, length int) api.Stripe {
	t.Helper()
	s, e := code.Fill(f.code, b, length)
	if e != api.OK {
		t.Fatalf("Fill of %v, of %d bytes, of the length %d: error %d", f.code, len(b), length, e)
	}
	return s
}

func mustData(t *testing.T, f form, s api.Stripe) []byte {
	t.Helper()
	b, e := code.Data(f.code, s)
	if e != api.OK {
		t.Fatalf("Data of %v: error %d", f.code, e)
	}
	return b
}

func mustChange(t *testing.T, f form, s api.Stripe, at api.At, c []byte) api.Stripe {
	t.Helper()
	o, _, e := code.Change(f.code, s, at, c)
	if e != api.OK {
		t.Fatalf("Change of %v at %v: error %d", f.code, at, e)
	}
	return o
}

// told holds Wrong and Check against places.
func told(t *testing.T, f form, s api.Stripe, want []api.At) {
	t.Helper()
	if l := slices.Collect(code.Wrong(f.code, s)); !slices.Equal(l, want) {
		t.Errorf("Wrong(%v, %x): %v, want %v", f.code, s, l, want)
	}
	if is, e := code.Check(f.code, s); is != (len(want) == 0) || e != api.OK {
		t.Errorf("Check(%v, %x) = %v, error %d, where %v are wrong", f.code, s, is, e, want)
	}
}

// asMade holds Encode against the document's words, and the other calls with what
// is made.
func asMade(t *testing.T, f form, data []api.Column) {
	t.Helper()
	want := f.whole(data)
	if s := mustEncode(t, f, data); !same(s, want) {
		t.Errorf("Encode(%v, %x) = %x, want %x", f.code, data, s, want)
	}
	asThere(t, f, want)
	told(t, f, want, nil)
}

// asThere holds the calls that ask for a stripe, whole or not, against the
// document's words.
func asThere(t *testing.T, f form, s api.Stripe) {
	t.Helper()
	if e := code.Right(f.code, s); e != api.OK {
		t.Errorf("Right(%v, %x) = %d", f.code, s, e)
	}
	if b := mustData(t, f, s); !bytes.Equal(b, f.octets(s)) {
		t.Errorf("Data(%v, %x) = %x, want %x", f.code, s, b, f.octets(s))
	}
	told(t, f, s, f.wrong(s))
}

// changed holds Change against the document's words.
func changed(t *testing.T, f form, s api.Stripe, at api.At, c []byte) {
	t.Helper()
	want, both := copied(s), upon(cellOf(s, at), c)
	want[at.Col][at.Row] = c
	for _, x := range f.touched(at) {
		want[x.Col][x.Row] = upon(cellOf(s, x), both)
	}
	o, l, e := code.Change(f.code, s, at, c)
	if !same(o, want) || !slices.Equal(l, f.touched(at)) || e != api.OK {
		t.Errorf("Change(%v, %x, %v, %x) = %x, %v, error %d, want %x, %v",
			f.code, s, at, c, o, l, e, want, f.touched(at))
	}
}

// refused holds all calls against columns that may be none of them.
func refused(t *testing.T, c api.Code, l []api.Column) {
	t.Helper()
	noData(t, c, l)
	noStripe(t, c, l)
}

// noData holds the call that asks for columns of data against others.
func noData(t *testing.T, c api.Code, l []api.Column) {
	t.Helper()
	if s, e := code.Encode(c, l); s != nil || e != api.ErrArg {
		t.Errorf("Encode(%v, %x) = %x, error %d", c, l, s, e)
	}
}

// noStripe holds the calls that ask for a stripe against others. That the place
// is none either must not be told by Change: the stripe comes first.
func noStripe(t *testing.T, c api.Code, l api.Stripe) {
	t.Helper()
	if e := code.Right(c, l); e != api.ErrArg {
		t.Errorf("Right(%v, %x) = %d", c, l, e)
	}
	if b, e := code.Data(c, l); b != nil || e != api.ErrArg {
		t.Errorf("Data(%v, %x) = %x, error %d", c, l, b, e)
	}
	if is, e := code.Check(c, l); is || e != api.ErrArg {
		t.Errorf("Check(%v, %x) = %v, error %d", c, l, is, e)
	}
	places := code.Wrong(c, l)
	if places == nil {
		t.Fatalf("Wrong(%v, %x) is not there", c, l)
	}
	for at := range places {
		t.Errorf("Wrong(%v, %x): %v", c, l, at)
	}
	for _, at := range []api.At{{}, {Col: -1}, {Col: 1 << 40, Row: 1 << 40}} {
		notChanged(t, c, l, at, []byte{0}, api.ErrArg)
		notChanged(t, c, l, at, nil, api.ErrArg)
	}
}

func notChanged(t *testing.T, c api.Code, s api.Stripe, at api.At, cell []byte, want api.Errno) {
	t.Helper()
	if o, l, e := code.Change(c, s, at, cell); o != nil || l != nil || e != want {
		t.Errorf("Change(%v, %x, %v, %x) = %x, %v, error %d, want %d", c, s, at, cell, o, l, e, want)
	}
}

func notFilled(t *testing.T, c api.Code, b []byte, length int) {
	t.Helper()
	if s, e := code.Fill(c, b, length); s != nil || e != api.ErrArg {
		t.Errorf("Fill of %v, of %d bytes, of the length %d: %x, error %d", c, len(b), length, s, e)
	}
}
