package shape_test

import (
	"iter"
	"math"
	"slices"
	"testing"

	"palisade/api"
	"palisade/shape"
)

// theirs is the primes by hand, as forms is what codes have, so that the tests
// don't ask the package for them.
var theirs = []int{3, 5, 7, 11, 13, 17}

// form is what a code has.
type form struct {
	code                   api.Code
	rows, data, cols, lost int
}

// forms is all codes, by Kinds, by primes.
var forms = []form{
	{api.Code{Kind: api.Evenodd, P: 3}, 2, 3, 5, 2},
	{api.Code{Kind: api.Evenodd, P: 5}, 4, 5, 7, 2},
	{api.Code{Kind: api.Evenodd, P: 7}, 6, 7, 9, 2},
	{api.Code{Kind: api.Evenodd, P: 11}, 10, 11, 13, 2},
	{api.Code{Kind: api.Evenodd, P: 13}, 12, 13, 15, 2},
	{api.Code{Kind: api.Evenodd, P: 17}, 16, 17, 19, 2},
	{api.Code{Kind: api.Rdp, P: 3}, 2, 2, 4, 2},
	{api.Code{Kind: api.Rdp, P: 5}, 4, 4, 6, 2},
	{api.Code{Kind: api.Rdp, P: 7}, 6, 6, 8, 2},
	{api.Code{Kind: api.Rdp, P: 11}, 10, 10, 12, 2},
	{api.Code{Kind: api.Rdp, P: 13}, 12, 12, 14, 2},
	{api.Code{Kind: api.Rdp, P: 17}, 16, 16, 18, 2},
	{api.Code{Kind: api.Star, P: 3}, 2, 3, 6, 3},
	{api.Code{Kind: api.Star, P: 5}, 4, 5, 8, 3},
	{api.Code{Kind: api.Star, P: 7}, 6, 7, 10, 3},
	{api.Code{Kind: api.Star, P: 11}, 10, 11, 14, 3},
	{api.Code{Kind: api.Star, P: 13}, 12, 13, 16, 3},
	{api.Code{Kind: api.Star, P: 17}, 16, 17, 20, 3},
}

// huge is numbers far off, those at the ends of their kinds included, and such
// as would be small if they were cut to fewer bits.
var huge = []int{
	math.MinInt, math.MinInt + 1, math.MinInt + 4, -1 << 32, -1<<31 - 1, -1 << 31,
	1 << 8, 1<<8 + 1, 1 << 16, 1<<16 + 1, 1<<31 - 1, 1 << 31, 1 << 32, 1<<32 + 1, 1<<32 + 3,
	1 << 62, 1<<62 + 1, math.MaxInt - 1, math.MaxInt,
}

// noCodes is codes that may not be: of each Kind with numbers that are no
// prime of a code, of each prime with numbers that are no Kind.
func noCodes() []api.Code {
	var l []api.Code
	for kind := api.Evenodd; kind <= api.Star; kind++ {
		for p := -20; p <= 60; p++ {
			if !slices.Contains(theirs, p) {
				l = append(l, api.Code{Kind: kind, P: p})
			}
		}
		for _, p := range huge {
			l = append(l, api.Code{Kind: kind, P: p})
		}
	}
	for _, p := range slices.Concat(theirs, []int{0, 4, -3, math.MaxInt}) {
		for _, kind := range slices.Concat(huge, []int{-3, -2, -1, 0, 4, 5, 6, 7}) {
			l = append(l, api.Code{Kind: api.CodeKind(kind), P: p})
		}
	}
	return l
}

// noneOf is numbers of which a code doesn't have one: all that are huge, and
// those next to what it has many of.
func noneOf(many int) []int {
	l := slices.Clone(huge)
	for n := range 30 {
		l = append(l, -1-n, many+n)
	}
	return slices.DeleteFunc(l, func(n int) bool { return 0 <= n && n < many })
}

// noCells is places of which a code that has so many columns and rows has none.
func noCells(cols, rows int) []api.At {
	var l []api.At
	for _, col := range noneOf(cols) {
		for _, row := range slices.Concat(huge, []int{-1, 0, 1, rows - 1, rows}) {
			l = append(l, api.At{Col: col, Row: row})
		}
	}
	for _, row := range noneOf(rows) {
		for _, col := range slices.Concat(huge, []int{-1, 0, 1, cols - 1, cols}) {
			l = append(l, api.At{Col: col, Row: row})
		}
	}
	return l
}

// cells is all places of a code that has so many columns and rows, row by row.
func cells(cols, rows int) []api.At {
	var l []api.At
	for row := range rows {
		for col := range cols {
			l = append(l, api.At{Col: col, Row: row})
		}
	}
	return l
}

// told holds an answer against what it should be.
func told[T comparable](t *testing.T, want T) func(T, api.Errno) {
	return func(got T, e api.Errno) {
		t.Helper()
		if got != want || e != api.OK {
			t.Errorf("%v, error %d, want %v", got, e, want)
		}
	}
}

// refused holds an answer against an error.
func refused[T comparable](t *testing.T, want api.Errno) func(T, api.Errno) {
	return func(got T, e api.Errno) {
		t.Helper()
		var zero T
		if got != zero || e != want {
			t.Errorf("%v, error %d, want error %d", got, e, want)
		}
	}
}

// ofCode is the calls that tell how many of something a code has.
var ofCode = []struct {
	name string
	call func(api.Code) (int, api.Errno)
	want func(form) int
}{
	{"Rows", shape.Rows, func(f form) int { return f.rows }},
	{"Data", shape.Data, func(f form) int { return f.data }},
	{"Cols", shape.Cols, func(f form) int { return f.cols }},
	{"Lost", shape.Lost, func(f form) int { return f.lost }},
}

// ofPlace is the calls that tell something of a place.
var ofPlace = []struct {
	name string
	call func(api.Code, api.At) (int, api.Errno)
}{
	{"Number", shape.Number},
	{"Diagonal", shape.Diagonal},
	{"Slant", shape.Slant},
}

var (
	evenodd5 = api.Code{Kind: api.Evenodd, P: 5}
	rdp5     = api.Code{Kind: api.Rdp, P: 5}
	star5    = api.Code{Kind: api.Star, P: 5}
)

// P4.1, P4.2: the document's examples, and others by hand.
func TestRows(t *testing.T) {
	told(t, 7)(shape.Cols(evenodd5))
	told(t, 6)(shape.Cols(rdp5))
	told(t, 8)(shape.Cols(star5))
	told(t, 3)(shape.Lost(star5))
	told(t, 4)(shape.Data(rdp5))
	told(t, api.RoleRow)(shape.Role(rdp5, 4))
	told(t, api.RoleDiagonal)(shape.Role(rdp5, 5))
	told(t, api.RoleData)(shape.Role(evenodd5, 4))
	told(t, api.RoleSlant)(shape.Role(star5, 7))
	told(t, api.At{Col: 2, Row: 1})(shape.Place(evenodd5, 7))
	told(t, api.At{Col: 3, Row: 1})(shape.Place(rdp5, 7))
	told(t, 11)(shape.Number(star5, api.At{Col: 1, Row: 2}))
	told(t, 9)(shape.Number(rdp5, api.At{Col: 1, Row: 2}))
	told(t, 1)(shape.Diagonal(evenodd5, api.At{Col: 3, Row: 3}))
	told(t, 0)(shape.Slant(evenodd5, api.At{Col: 3, Row: 3}))
	told(t, 2)(shape.Slant(evenodd5, api.At{Col: 4, Row: 1}))
	told(t, 4)(shape.Diagonal(star5, api.At{Col: 7, Row: 2}))
	told(t, 0)(shape.Slant(star5, api.At{Col: 7, Row: 2}))
	if e := shape.Check(api.Code{Kind: api.Star, P: 4}); e != api.ErrArg {
		t.Errorf("Check(Star 4) = %d", e)
	}
}

// P4.1: what each code has.
func TestOfCode(t *testing.T) {
	for _, f := range forms {
		if e := shape.Check(f.code); e != api.OK {
			t.Errorf("Check(%v) = %d", f.code, e)
		}
		for _, row := range ofCode {
			if n, e := row.call(f.code); n != row.want(f) || e != api.OK {
				t.Errorf("%s(%v) = %d, error %d, want %d", row.name, f.code, n, e, row.want(f))
			}
		}
	}
}

// P4.1, P4.2: what may be no code is refused by each call, ahead of what there
// is not.
func TestNoCode(t *testing.T) {
	for _, c := range noCodes() {
		if e := shape.Check(c); e != api.ErrArg {
			t.Errorf("Check(%v) = %d", c, e)
		}
		for _, row := range ofCode {
			refused[int](t, api.ErrArg)(row.call(c))
		}
		for _, n := range []int{math.MinInt, -1, 0, 1, 3, 400, math.MaxInt} {
			refused[api.Role](t, api.ErrArg)(shape.Role(c, n))
			refused[api.At](t, api.ErrArg)(shape.Place(c, n))
			for _, row := range ofPlace {
				refused[int](t, api.ErrArg)(row.call(c, api.At{Col: n, Row: 0}))
				refused[int](t, api.ErrArg)(row.call(c, api.At{Col: 1, Row: n}))
			}
			nothing(t, c, n)
		}
	}
}

// P4.1: data first, then rows, diagonals, slants; nothing besides.
func TestRole(t *testing.T) {
	behind := []api.Role{api.RoleRow, api.RoleDiagonal, api.RoleSlant}
	for _, f := range forms {
		for col := range f.cols {
			want := api.RoleData
			if col >= f.data {
				want = behind[col-f.data]
			}
			told(t, want)(shape.Role(f.code, col))
		}
		for _, col := range noneOf(f.cols) {
			refused[api.Role](t, api.ErrRange)(shape.Role(f.code, col))
		}
	}
}

// P4.1: all codes, by Kinds, by primes; each answer is memory of its own.
func TestAll(t *testing.T) {
	var want []api.Code
	for _, f := range forms {
		want = append(want, f.code)
	}
	l := shape.All()
	if !slices.Equal(l, want) {
		t.Errorf("All() = %v", l)
	}
	for i := range l {
		l[i] = api.Code{}
	}
	_ = append(l, api.Code{Kind: 4, P: 4})
	if again := shape.All(); !slices.Equal(again, want) {
		t.Errorf("what is done to an answer is seen: %v", again)
	}
}

// P4.2: numbers go row by row, in each from the column 0 on.
func TestPlaceNumber(t *testing.T) {
	for _, f := range forms {
		for n, at := range cells(f.data, f.rows) {
			told(t, at)(shape.Place(f.code, n))
			told(t, n)(shape.Number(f.code, at))
		}
	}
}

// P4.2: numbers that no data cell has, and places that none has: those of what
// is made of the data, too.
func TestPlaceNumberRefuse(t *testing.T) {
	for _, f := range forms {
		for _, n := range noneOf(f.data * f.rows) {
			refused[api.At](t, api.ErrRange)(shape.Place(f.code, n))
		}
		for _, at := range noCells(f.data, f.rows) {
			refused[int](t, api.ErrRange)(shape.Number(f.code, at))
		}
		for col := f.data; col < f.cols; col++ {
			for row := range f.rows {
				refused[int](t, api.ErrRange)(shape.Number(f.code, api.At{Col: col, Row: row}))
			}
		}
	}
}

// P4.2: diagonals and slants of all cells, of data or not.
func TestDiagonalSlant(t *testing.T) {
	for _, f := range forms {
		p := f.code.P
		for _, at := range cells(f.cols, f.rows) {
			told(t, (at.Col+at.Row)%p)(shape.Diagonal(f.code, at))
			told(t, (at.Row-at.Col+2*p)%p)(shape.Slant(f.code, at))
		}
	}
}

// P4.2: places that no cell has; the row that would be one more, too.
func TestDiagonalSlantRefuse(t *testing.T) {
	for _, f := range forms {
		for _, at := range noCells(f.cols, f.rows) {
			refused[int](t, api.ErrRange)(shape.Diagonal(f.code, at))
			refused[int](t, api.ErrRange)(shape.Slant(f.code, at))
		}
	}
}

// column is the places of a column by hand.
func column(f form, col int) []api.At {
	l := make([]api.At, f.rows)
	for row := range l {
		l[row] = api.At{Col: col, Row: row}
	}
	return l
}

// nothing holds Cells against a column that there is not: it is there, and
// goes over nothing.
func nothing(t *testing.T, c api.Code, col int) {
	t.Helper()
	down := shape.Cells(c, col)
	if down == nil {
		t.Fatalf("Cells(%v, %d) is not there", c, col)
	}
	if got := slices.Collect(down); len(got) != 0 {
		t.Errorf("Cells(%v, %d): %v", c, col, got)
	}
}

// P4.2: the places of each column, by rows; none of a column that there is not.
func TestCells(t *testing.T) {
	for _, f := range forms {
		for col := range f.cols {
			if got, want := slices.Collect(shape.Cells(f.code, col)), column(f, col); !slices.Equal(got, want) {
				t.Errorf("Cells(%v, %d): %v, want %v", f.code, col, got, want)
			}
		}
		for _, col := range noneOf(f.cols) {
			nothing(t, f.code, col)
		}
	}
}

// leftAt is what is told of a column by one that leaves it at a row.
func leftAt(down iter.Seq[api.At], row int) []api.At {
	var l []api.At
	down(func(at api.At) bool {
		l = append(l, at)
		return at.Row != row
	})
	return l
}

// P4.2: a column may be left at any time, nothing is told behind that; it may
// be gone over again, within itself, too.
func TestCellsLeftAgain(t *testing.T) {
	for _, f := range forms {
		for col := range f.cols {
			down, want := shape.Cells(f.code, col), column(f, col)
			for row := range f.rows {
				if got := leftAt(down, row); !slices.Equal(got, want[:row+1]) {
					t.Errorf("Cells(%v, %d), left at %d: %v", f.code, col, row, got)
				}
			}
			rounds := 0
			for range down {
				rounds++
				if got := slices.Collect(down); !slices.Equal(got, want) {
					t.Errorf("Cells(%v, %d), within itself: %v", f.code, col, got)
				}
			}
			if rounds != f.rows {
				t.Errorf("Cells(%v, %d): %d places", f.code, col, rounds)
			}
		}
	}
}

// sure is an answer that can't be an error here.
func sure[T any](t *testing.T) func(T, api.Errno) T {
	return func(got T, e api.Errno) T {
		t.Helper()
		if e != api.OK {
			t.Fatalf("error %d", e)
		}
		return got
	}
}

// P4.3: columns are those of data, and as many more as can be lost.
func TestColumnsInAll(t *testing.T) {
	of := sure[int](t)
	for _, c := range shape.All() {
		told(t, of(shape.Data(c))+of(shape.Lost(c)))(shape.Cols(c))
		data := 0
		for col := range of(shape.Cols(c)) {
			if sure[api.Role](t)(shape.Role(c, col)) == api.RoleData {
				data++
			}
		}
		told(t, data)(shape.Data(c))
	}
}

// P4.3: Number of Place is the number, and there are Data times Rows of them.
func TestNumberOfPlace(t *testing.T) {
	of := sure[int](t)
	for _, c := range shape.All() {
		all := of(shape.Data(c)) * of(shape.Rows(c))
		for n := range all {
			told(t, n)(shape.Number(c, sure[api.At](t)(shape.Place(c, n))))
		}
		refused[api.At](t, api.ErrRange)(shape.Place(c, all))
		found := 0
		for col := range of(shape.Cols(c)) {
			for at := range shape.Cells(c, col) {
				if _, e := shape.Number(c, at); e == api.OK {
					found++
				}
			}
		}
		if found != all {
			t.Errorf("%v: %d cells have numbers, want %d", c, found, all)
		}
	}
}

// lacked is the one line that a column has no cell of; each other one it must
// have one of.
func lacked(t *testing.T, c api.Code, col int, line func(api.Code, api.At) (int, api.Errno)) int {
	t.Helper()
	times := make([]int, c.P)
	for at := range shape.Cells(c, col) {
		times[sure[int](t)(line(c, at))]++
	}
	one := slices.Index(times, 0)
	for n, many := range times {
		if n != one && many != 1 {
			t.Fatalf("%v: the column %d has the lines %v times", c, col, times)
		}
	}
	return one
}

// P4.3: of as many columns as the prime each lacks one diagonal and one slant,
// and no two the same one.
func TestLacked(t *testing.T) {
	for _, line := range []func(api.Code, api.At) (int, api.Errno){shape.Diagonal, shape.Slant} {
		for _, c := range shape.All() {
			cols := sure[int](t)(shape.Cols(c))
			for from := 0; from+c.P <= cols; from++ {
				by := make([]int, c.P)
				for col := from; col < from+c.P; col++ {
					by[lacked(t, c, col, line)]++
				}
				if slices.ContainsFunc(by, func(n int) bool { return n != 1 }) {
					t.Errorf("%v from the column %d on: lines are lacked %v times", c, from, by)
				}
			}
		}
	}
}
