package decode_test

import (
	"math"
	"slices"
	"testing"

	"palisade/api"
)

// P14.1, P14.2: codes that may not be, told ahead of all else.
func TestNoCode(t *testing.T) {
	for _, c := range noCodes() {
		for _, f := range []form{evenodd3, forms()[1], forms()[2], forms()[17]} {
			for _, lost := range [][]int{nil, {0}, {0, 1}, {-1}, {2, 2}, {0, 1, 2, 3}} {
				refused(t, c, f.wholeOf(1, 1), api.ErrArg, lost...)
				refused(t, c, nil, api.ErrArg, lost...)
				checked(t, c, api.ErrArg, lost...)
			}
			noCell(t, c, f.wholeOf(1, 1), api.At{Col: -1}, api.ErrArg)
			notBlamed(t, c, f.wholeOf(1, 1), api.ErrArg)
			notBlamed(t, c, nil, api.ErrArg)
		}
	}
}

// P14.1, P14.2: not as many columns as the code has, told ahead of numbers that
// none has.
func TestHowMany(t *testing.T) {
	for _, f := range forms() {
		s := f.wholeOf(2, 2)
		s = append(s, s...)
		for many := range len(s) + 1 {
			if many == f.cols {
				continue
			}
			for _, lost := range [][]int{nil, {0}, {1, 0}, {-1}, {f.cols}, {many}, {0, 0}, {0, 1, 2, 3}} {
				refused(t, f.code, s[:many], api.ErrArg, lost...)
			}
			noCell(t, f.code, s[:many], api.At{Row: -1}, api.ErrArg, 0)
			notBlamed(t, f.code, s[:many], api.ErrArg)
		}
		refused(t, f.code, nil, api.ErrArg)
		refused(t, f.code, api.Stripe{}, api.ErrArg, 0)
	}
}

// P14.1: numbers that no column has, or that come twice, at each place, told ahead
// of more than can be lost, and of columns that may not be.
func TestNoColumn(t *testing.T) {
	for _, f := range forms() {
		stripes := []api.Stripe{f.wholeOf(3, 1), make(api.Stripe, f.cols), f.any(3, 65), f.any(3, 1)}
		for n, l := range [][]int{{0}, {f.cols - 1, 0}, {0, 1, f.cols - 1}, {3, 2, 1, 0}} {
			for i := range l {
				no := slices.Clone(l)
				for _, col := range noColumns(f.cols) {
					no[i] = col
					refused(t, f.code, stripes[n], api.ErrRange, no...)
					checked(t, f.code, api.ErrRange, no...)
				}
				for j := range i {
					no[i] = no[j]
					for _, s := range stripes {
						refused(t, f.code, s, api.ErrRange, no...)
					}
					checked(t, f.code, api.ErrRange, no...)
				}
			}
		}
		var all []int
		for col := range f.cols {
			all = append(all, col)
		}
		for _, no := range [][]int{append(all, 0), append(all, f.cols), slices.Repeat([]int{1}, 100000)} {
			refused(t, f.code, stripes[0], api.ErrRange, no...)
			checked(t, f.code, api.ErrRange, no...)
		}
	}
}

// badColumns is columns that don't belong to others, of cells of two bytes.
func (f form) badColumns(seed int) []api.Column {
	l := []api.Column{nil, {}, make(api.Column, f.rows)}
	for _, rows := range []int{1, f.rows - 1, f.rows + 1, 2 * f.rows} {
		other := form{code: f.code, rows: rows}
		if rows != f.rows {
			l = append(l, other.noughts(1, 2)[0])
		}
	}
	for _, length := range []int{0, 1, 3, 65} {
		l = append(l, f.noughts(1, length)[0])
		for row := range f.rows {
			c := f.numbered(uint64(seed), 1, 2)[0]
			c[row] = make([]byte, length)
			l = append(l, c)
		}
	}
	return l
}

// P14.1, P14.2: a column that may not be, at each place: where it is lost, it is
// not looked at.
func TestBadColumn(t *testing.T) {
	for _, f := range forms() {
		s := f.wholeOf(4, 2)
		losses := f.losses()
		for col := range f.cols {
			for n, bad := range f.badColumns(col) {
				if f.code.P > 5 && (n+col)%7 > 0 {
					continue
				}
				with := slices.Clone(s)
				with[col] = bad
				refused(t, f.code, with, api.ErrArg)
				notBlamed(t, f.code, with, api.ErrArg)
				decodes(t, f, with, s, col)
				for i := range 6 {
					lost := losses[(n*31+col*7+i*13)%len(losses)]
					if slices.Contains(lost, col) {
						decodes(t, f, with, s, lost...)
					} else {
						refused(t, f.code, with, api.ErrArg, lost...)
					}
				}
			}
		}
	}
}

// P14.1, P14.2: all columns may not be in the same way; or but one of them.
func TestBadColumns(t *testing.T) {
	for _, f := range forms() {
		for _, length := range []int{0, 65, 66, 1000} {
			s := api.Stripe(f.noughts(f.cols, length))
			notBlamed(t, f.code, s, api.ErrArg)
			for n, lost := range f.losses() {
				if n%23 == 0 {
					refused(t, f.code, s, api.ErrArg, lost...)
				}
			}
		}
		for _, rows := range []int{0, 1, f.rows - 1, f.rows + 1} {
			other := form{code: f.code, rows: rows}
			if rows != f.rows {
				refused(t, f.code, other.noughts(f.cols, 2), api.ErrArg, 0)
				notBlamed(t, f.code, other.noughts(f.cols, 2), api.ErrArg)
			}
		}
		s := append(f.any(1, 3)[1:], f.noughts(1, 2)[0])
		refused(t, f.code, s, api.ErrArg)
		refused(t, f.code, s, api.ErrArg, 0)
		notBlamed(t, f.code, s, api.ErrArg)
	}
}

// P14.1: columns that may not be are told ahead of such as contradict one another.
func TestBadAheadOfWrong(t *testing.T) {
	for _, f := range forms() {
		s := f.any(5, 2)
		refused(t, f.code, s, api.ErrWrong)
		refused(t, f.code, s, api.ErrWrong, 0)
		notBlamed(t, f.code, s, api.ErrWrong)
		s[f.cols-1] = f.any(5, 3)[0]
		refused(t, f.code, s, api.ErrArg)
		refused(t, f.code, s, api.ErrArg, 0)
		notBlamed(t, f.code, s, api.ErrArg)
		refused(t, f.code, s, api.ErrWrong, f.cols-1)
	}
}

// P14.1: places that no cell has: told behind numbers that no column has, ahead of
// more than can be lost, of columns that may not be or contradict one another.
func TestNoPlace(t *testing.T) {
	far := []int{math.MinInt, math.MinInt + 1, -1 << 32, -1 << 31, -2, -1, 1 << 8, 1 << 31, 1 << 32, math.MaxInt - 1, math.MaxInt}
	for _, f := range forms() {
		var places []api.At
		for col := range f.cols + 1 {
			for _, row := range append(far, f.rows, f.rows+1, 2*f.rows) {
				places = append(places, api.At{Col: col, Row: row})
			}
		}
		for _, col := range append(far, f.cols, f.cols+1) {
			for row := range f.rows + 1 {
				places = append(places, api.At{Col: col, Row: row})
			}
		}
		s, none := f.wholeOf(6, 1), make(api.Stripe, f.cols)
		for _, at := range places {
			noCell(t, f.code, s, at, api.ErrRange)
			noCell(t, f.code, s, at, api.ErrRange, 0, 1)
			noCell(t, f.code, s, at, api.ErrRange, 0, 1, 2, 3)
			noCell(t, f.code, none, at, api.ErrRange, 0)
			noCell(t, f.code, none, at, api.ErrRange, f.cols)
			noCell(t, f.code, s[1:], at, api.ErrArg, f.cols)
		}
		wrong := f.any(6, 1)
		noCell(t, f.code, wrong, places[0], api.ErrRange)
		noCell(t, f.code, wrong, api.At{}, api.ErrWrong)
	}
}
