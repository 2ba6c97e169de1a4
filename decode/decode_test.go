package decode_test

import (
	"bytes"
	"math"
	"math/rand/v2"
	"slices"
	"testing"

	"palisade/api"
	"palisade/decode"
)

// form is what a code has. The tests reckon all of it by the document's words:
// they don't ask the layers below.
type form struct {
	code             api.Code
	rows, data, cols int
}

// theirs is the primes by hand.
var theirs = []int{3, 5, 7, 11, 13, 17}

func forms() []form {
	var l []form
	for _, p := range theirs {
		l = append(l,
			form{api.Code{Kind: api.Evenodd, P: p}, p - 1, p, p + 2},
			form{api.Code{Kind: api.Rdp, P: p}, p - 1, p - 1, p + 1},
			form{api.Code{Kind: api.Star, P: p}, p - 1, p, p + 3})
	}
	return l
}

// small is those forms of which all cells may be gone over for all lost columns.
func small() []form {
	return slices.DeleteFunc(forms(), func(f form) bool { return f.code.P > 5 })
}

// can is how many columns a code can lose.
func (f form) can() int { return f.cols - f.data }

// noCodes is codes that may not be: primes and Kinds near and far off, and such
// as would be one if they were cut to fewer bits.
func noCodes() []api.Code {
	var l []api.Code
	for _, p := range []int{
		math.MinInt, math.MinInt + 3, -1<<32 + 3, -1 << 31, -17, -5, -3, -2, -1,
		0, 1, 2, 4, 6, 8, 9, 10, 12, 14, 15, 16, 18, 19, 23, 29,
		1<<8 + 3, 1<<16 + 5, 1<<31 - 1, 1<<32 + 3, 1<<32 + 17, math.MaxInt,
	} {
		for kind := api.Evenodd; kind <= api.Star; kind++ {
			l = append(l, api.Code{Kind: kind, P: p})
		}
	}
	for _, kind := range []api.CodeKind{math.MinInt, -1<<32 + 1, -3, -2, -1, 0, 4, 5, 1<<8 + 1, 1<<32 + 2, math.MaxInt} {
		for _, p := range append(theirs, 0, 4) {
			l = append(l, api.Code{Kind: kind, P: p})
		}
	}
	return l
}

// noColumns is numbers that none of so many columns has.
func noColumns(cols int) []int {
	return []int{
		math.MinInt, math.MinInt + 1, -1 << 32, -1<<32 + 1, -cols, -2, -1,
		cols, cols + 1, 2 * cols, 1 << 8, 1<<8 + 1, 1 << 31, 1 << 32, 1<<32 + 1, math.MaxInt - 1, math.MaxInt,
	}
}

// lists is all lists of so many columns, rising, ahead of one.
func lists(ahead, many int) [][]int {
	if many == 0 {
		return [][]int{nil}
	}
	var l [][]int
	for last := range ahead {
		for _, others := range lists(last, many-1) {
			l = append(l, append(slices.Clone(others), last))
		}
	}
	return l
}

// losses is all lists of columns that a code can lose.
func (f form) losses() [][]int {
	var l [][]int
	for many := range f.can() + 1 {
		l = append(l, lists(f.cols, many)...)
	}
	return l
}

// orders is all orders of a list.
func orders(l []int) [][]int {
	if len(l) == 0 {
		return [][]int{nil}
	}
	var all [][]int
	for i, first := range l {
		for _, others := range orders(slices.Delete(slices.Clone(l), i, i+1)) {
			all = append(all, append([]int{first}, others...))
		}
	}
	return all
}

// spots is the places of some columns, by Col, of one Col by Row.
func (f form) spots(from, to int) []api.At {
	var l []api.At
	for col := from; col < to; col++ {
		for row := range f.rows {
			l = append(l, api.At{Col: col, Row: row})
		}
	}
	return l
}

func (f form) diagonal(at api.At) int { return (at.Col + at.Row) % f.code.P }
func (f form) slant(at api.At) int    { return (at.Row - at.Col + 2*f.code.P) % f.code.P }

// member tells whether a cell is one of those of which another one is made.
func (f form) member(at, made api.At) bool {
	last, data, rows := f.code.P-1, at.Col < f.data, at.Col == f.data
	switch made.Col - f.data {
	case 0:
		return data && at.Row == made.Row
	case 1:
		if f.code.Kind == api.Rdp {
			return (data || rows) && f.diagonal(at) == made.Row
		}
		return data && (f.diagonal(at) == made.Row || f.diagonal(at) == last)
	case 2:
		return data && (f.slant(at) == made.Row || f.slant(at) == last)
	}
	return false
}

// sum is the members of a cell, put upon one another.
func (f form) sum(s []api.Column, made api.At) []byte {
	c := make([]byte, len(s[0][0]))
	for _, at := range f.spots(0, min(len(s), made.Col)) {
		if f.member(at, made) {
			c = upon(c, cellOf(s, at))
		}
	}
	return c
}

// whole is data with what is made of them: column by column, as of Rdp the one
// of rows is a member of that of diagonals.
func (f form) whole(data []api.Column) api.Stripe {
	s := api.Stripe(copied(data))
	for col := f.data; col < f.cols; col++ {
		var made api.Column
		for row := range f.rows {
			made = append(made, f.sum(s, api.At{Col: col, Row: row}))
		}
		s = append(s, made)
	}
	return s
}

// wholeOf is a whole stripe that hangs on the seed alone.
func (f form) wholeOf(seed uint64, length int) api.Stripe {
	return f.whole(f.numbered(seed, f.data, length))
}

// isWhole tells whether each parity cell is what its members make.
func (f form) isWhole(s []api.Column) bool {
	return !slices.ContainsFunc(f.spots(f.data, f.cols), func(at api.At) bool {
		return !bytes.Equal(cellOf(s, at), f.sum(s, at))
	})
}

func (f form) noughts(many, length int) []api.Column {
	return each(many, f.rows, func(int, int) []byte { return make([]byte, length) })
}

// numbered is columns whose cells hang on the seed alone.
func (f form) numbered(seed uint64, many, length int) []api.Column {
	r := rand.New(rand.NewPCG(seed, uint64(f.code.P*4)+uint64(f.code.Kind)))
	return each(many, f.rows, func(int, int) []byte { return octets(r, length) })
}

// any is a stripe that nobody made.
func (f form) any(seed uint64, length int) api.Stripe { return f.numbered(seed, f.cols, length) }

func octets(r *rand.Rand, length int) []byte {
	c := make([]byte, length)
	for i := range c {
		c[i] = byte(r.Uint32())
	}
	return c
}

// each is columns whose cells are told by their places.
func each(many, rows int, cell func(col, row int) []byte) []api.Column {
	l := make([]api.Column, many)
	for col := range l {
		for row := range rows {
			l[col] = append(l[col], cell(col, row))
		}
	}
	return l
}

func cellOf(s []api.Column, at api.At) []byte { return s[at.Col][at.Row] }

// upon is two cells put upon one another.
func upon(a, b []byte) []byte {
	c := make([]byte, len(a))
	for i := range a {
		c[i] = a[i] ^ b[i]
	}
	return c
}

// copied is columns with nothing in common with those they are a copy of.
func copied(l []api.Column) []api.Column {
	other := make([]api.Column, len(l))
	for i, col := range l {
		for _, c := range col {
			other[i] = append(other[i], slices.Clone(c))
		}
	}
	return other
}

func same(a, b []api.Column) bool {
	return slices.EqualFunc(a, b, func(x, y api.Column) bool {
		return slices.EqualFunc(x, y, bytes.Equal)
	})
}

// stand is what may stand in the place of a column that is lost.
func (f form) stand(n, length int) api.Column {
	seed := uint64(n)
	switch n % 7 {
	case 0:
		return nil
	case 1:
		return api.Column{}
	case 2:
		return make(api.Column, f.rows)
	case 3:
		return f.numbered(seed, 1, length)[0]
	case 4:
		return f.numbered(seed, 1, length+1)[0]
	case 5:
		other := form{code: f.code, rows: 3 * f.code.P}
		return other.numbered(seed, 1, 70)[0]
	}
	return append(f.noughts(1, length)[0][1:], []byte{1, 2, 3}, nil)
}

// lost is a stripe, with something else in the place of some of its columns.
func (f form) lost(n int, s api.Stripe, cols ...int) api.Stripe {
	other, length := api.Stripe(copied(s)), len(s[0][0])
	for _, col := range cols {
		other[col] = f.stand(n, length)
		n++
	}
	return other
}

// others tells whether two stripes have the same columns, but for some of them.
func others(a, b api.Stripe, cols ...int) bool {
	for col := range a {
		if !slices.Contains(cols, col) && !same(a[col:col+1], b[col:col+1]) {
			return false
		}
	}
	return true
}

// decodes holds Decode and Cell against the stripe that is meant.
func decodes(t *testing.T, f form, s, want api.Stripe, lost ...int) {
	t.Helper()
	if o, e := decode.Decode(f.code, s, lost...); e != api.OK || !same(o, want) {
		t.Errorf("Decode(%v, %x, %v) = %x, error %d, want %x", f.code, s, lost, o, e, want)
	}
	at := api.At{Col: f.cols - 1, Row: f.rows - 1}
	if len(lost) > 0 {
		at = api.At{Col: lost[0]}
	}
	cellIs(t, f, s, at, cellOf(want, at), lost...)
}

// cellIs holds Cell against a cell.
func cellIs(t *testing.T, f form, s api.Stripe, at api.At, want []byte, lost ...int) {
	t.Helper()
	if c, e := decode.Cell(f.code, s, at, lost...); e != api.OK || !bytes.Equal(c, want) {
		t.Errorf("Cell(%v, %x, %v, %v) = %x, error %d, want %x", f.code, s, at, lost, c, e, want)
	}
}

// refused holds Decode, and Cell at a place that there is, against an error.
func refused(t *testing.T, c api.Code, s api.Stripe, want api.Errno, lost ...int) {
	t.Helper()
	if o, e := decode.Decode(c, s, lost...); e != want || len(o) != 0 {
		t.Errorf("Decode(%v, %x, %v) = %x, error %d, want error %d", c, s, lost, o, e, want)
	}
	noCell(t, c, s, api.At{Col: 1, Row: 1}, want, lost...)
}

// noCell holds Cell against an error.
func noCell(t *testing.T, c api.Code, s api.Stripe, at api.At, want api.Errno, lost ...int) {
	t.Helper()
	if o, e := decode.Cell(c, s, at, lost...); e != want || len(o) != 0 {
		t.Errorf("Cell(%v, %x, %v, %v) = %x, error %d, want error %d", c, s, at, lost, o, e, want)
	}
}

// checked holds Check against an error, or OK.
func checked(t *testing.T, c api.Code, want api.Errno, lost ...int) {
	t.Helper()
	if e := decode.Check(api.Loss{Code: c, Lost: lost}); e != want {
		t.Errorf("Check(%v, %v): error %d, want %d", c, lost, e, want)
	}
}

// blamed holds Blame against a column.
func blamed(t *testing.T, f form, s api.Stripe, want int) {
	t.Helper()
	if col, e := decode.Blame(f.code, s); e != api.OK || col != want {
		t.Errorf("Blame(%v, %x) = %d, error %d, want %d", f.code, s, col, e, want)
	}
}

// notBlamed holds Blame against an error.
func notBlamed(t *testing.T, c api.Code, s api.Stripe, want api.Errno) {
	t.Helper()
	if col, e := decode.Blame(c, s); e != want || col != 0 {
		t.Errorf("Blame(%v, %x) = %d, error %d, want error %d", c, s, col, e, want)
	}
}
