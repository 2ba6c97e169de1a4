package chain_test

import (
	"bytes"
	"math"
	"math/rand/v2"
	"slices"
	"testing"

	"palisade/api"
	"palisade/chain"
)

// theirs is the primes by hand, so that the tests don't ask the layers below
// for them, as what is made is reckoned here by the document's words alone.
var theirs = []int{3, 5, 7, 11, 13, 17}

// noPrimes is numbers that are no prime of a code: those near, those far off,
// and such as would be one if they were cut to fewer bits.
var noPrimes = []int{
	math.MinInt, math.MinInt + 3, -1<<32 + 3, -1 << 31, -17, -5, -3, -2, -1,
	0, 1, 2, 4, 6, 8, 9, 10, 12, 14, 15, 16, 18, 19, 23, 29, 31, 37,
	1<<8 + 3, 1<<16 + 5, 1<<31 - 1, 1<<32 + 3, 1<<32 + 17, math.MaxInt - 1, math.MaxInt,
}

// noData is numbers that are no column of data of a prime.
func noData(p int) []int {
	return []int{
		math.MinInt, -1 << 32, -1<<32 + 1, -p, -2, -1, p, p + 1, p + 2, 2*p + 1,
		1 << 8, 1 << 16, 1 << 32, 1<<32 + 1, math.MaxInt,
	}
}

// pairs is all pairs of columns of data, the first ahead of the second.
func pairs(p int) [][2]int {
	var l [][2]int
	for b := range p {
		for a := range b {
			l = append(l, [2]int{a, b})
		}
	}
	return l
}

// noPairs is pairs that are not two columns of data, one ahead of the other.
func noPairs(p int) [][2]int {
	var l [][2]int
	for a := range p {
		for b := range a + 1 {
			l = append(l, [2]int{a, b})
		}
		for _, no := range noData(p) {
			l = append(l, [2]int{a, no}, [2]int{no, a})
		}
	}
	for _, a := range noData(p) {
		for _, b := range noData(p) {
			l = append(l, [2]int{a, b})
		}
	}
	return l
}

func diagonal(p int, at api.At) int { return (at.Col + at.Row) % p }

// onDiagonal is the cell of a column whose diagonal it is; its row is P - 1, if
// the column has no such cell.
func onDiagonal(p, col, diag int) api.At {
	at := api.At{Col: col}
	for diagonal(p, at) != diag {
		at.Row++
	}
	return at
}

// order is the chain by the document's words.
func order(p, a, b int) []api.At {
	var l []api.At
	at := onDiagonal(p, b, diagonal(p, api.At{Col: a, Row: p - 1}))
	for at.Row != p-1 {
		ofA := api.At{Col: a, Row: at.Row}
		l = append(l, at, ofA)
		at = onDiagonal(p, b, diagonal(p, ofA))
	}
	return l
}

// P11.1: the document's examples, and others by hand.
func TestOrderByHand(t *testing.T) {
	rows := []struct {
		p, a, b int
		want    []api.At
	}{
		{3, 0, 1, []api.At{{Col: 1, Row: 1}, {Col: 0, Row: 1}, {Col: 1, Row: 0}, {Col: 0, Row: 0}}},
		{3, 0, 2, []api.At{{Col: 2, Row: 0}, {Col: 0, Row: 0}, {Col: 2, Row: 1}, {Col: 0, Row: 1}}},
		{3, 1, 2, []api.At{{Col: 2, Row: 1}, {Col: 1, Row: 1}, {Col: 2, Row: 0}, {Col: 1, Row: 0}}},
		{5, 1, 3, []api.At{
			{Col: 3, Row: 2}, {Col: 1, Row: 2}, {Col: 3, Row: 0}, {Col: 1, Row: 0},
			{Col: 3, Row: 3}, {Col: 1, Row: 3}, {Col: 3, Row: 1}, {Col: 1, Row: 1},
		}},
	}
	for _, r := range rows {
		if got, e := chain.Order(r.p, r.a, r.b); !slices.Equal(got, r.want) || e != api.OK {
			t.Errorf("Order(%d, %d, %d) = %v, error %d, want %v", r.p, r.a, r.b, got, e, r.want)
		}
	}
}

// P11.1, P11.3: each pair, of each prime; the chain has each cell once.
func TestOrder(t *testing.T) {
	for _, p := range theirs {
		for _, l := range pairs(p) {
			got, e := chain.Order(p, l[0], l[1])
			if want := order(p, l[0], l[1]); !slices.Equal(got, want) || e != api.OK {
				t.Errorf("Order(%d, %v) = %v, error %d, want %v", p, l, got, e, want)
			}
			many := map[api.At]int{}
			for _, at := range got {
				many[at]++
			}
			for _, col := range l {
				for row := range p - 1 {
					if at := (api.At{Col: col, Row: row}); many[at] != 1 || len(many) != 2*(p-1) {
						t.Errorf("Order(%d, %v) has %v %d times", p, l, at, many[at])
					}
				}
			}
		}
	}
}

func noOrder(t *testing.T, p int, l [2]int, want api.Errno) {
	t.Helper()
	if got, e := chain.Order(p, l[0], l[1]); got != nil || e != want {
		t.Errorf("Order(%d, %v) = %v, error %d, want error %d", p, l, got, e, want)
	}
	walk := chain.Walk(p, l[0], l[1])
	if walk == nil {
		t.Fatalf("Walk(%d, %v) is not there", p, l)
	}
	for n, at := range walk {
		t.Errorf("Walk(%d, %v) tells %d %v", p, l, n, at)
	}
}

// P11.1: what is none of the primes, whatever the columns are, and columns that
// are not such.
func TestNoOrder(t *testing.T) {
	for _, p := range noPrimes {
		for _, l := range [][2]int{{0, 1}, {1, 2}, {1, 0}, {0, 0}, {-1, 1}, {0, p}, {p - 1, p}, {math.MinInt, math.MaxInt}} {
			noOrder(t, p, l, api.ErrArg)
		}
	}
	for _, p := range theirs {
		for _, l := range noPairs(p) {
			noOrder(t, p, l, api.ErrRange)
		}
	}
}

// P11.1: the walk goes over the places, with their numbers.
func TestWalk(t *testing.T) {
	for _, p := range theirs {
		for _, l := range pairs(p) {
			var got []api.At
			for n, at := range chain.Walk(p, l[0], l[1]) {
				if n != len(got) {
					t.Errorf("Walk(%d, %v) has the number %d at %d", p, l, n, len(got))
				}
				got = append(got, at)
			}
			if want := order(p, l[0], l[1]); !slices.Equal(got, want) {
				t.Errorf("Walk(%d, %v): %v, want %v", p, l, got, want)
			}
		}
	}
}

// P11.1: a walk may be left behind each place: nothing is told behind that.
func TestWalkLeft(t *testing.T) {
	for _, p := range theirs {
		walk, want := chain.Walk(p, 0, p-1), order(p, 0, p-1)
		for stop := range want {
			var got []api.At
			walk(func(n int, at api.At) bool {
				got = append(got, at)
				return n < stop
			})
			if !slices.Equal(got, want[:stop+1]) {
				t.Errorf("of %d, left behind %d: %v, want %v", p, stop, got, want[:stop+1])
			}
		}
	}
}

// P11.1: a walk may be gone over again, within itself, too.
func TestWalkAgain(t *testing.T) {
	for _, p := range theirs {
		walk, want := chain.Walk(p, 1, 2), order(p, 1, 2)
		for range walk {
			break
		}
		rounds := 0
		for n, at := range walk {
			if n != rounds || at != want[n] {
				t.Errorf("of %d, again: %d %v, want %d %v", p, n, at, rounds, want[rounds])
			}
			rounds++
			inner := 0
			for n, at := range walk {
				if n != inner || at != want[n] {
					t.Errorf("of %d, within itself: %d %v, want %d %v", p, n, at, inner, want[inner])
				}
				inner++
			}
		}
		if rounds != len(want) {
			t.Errorf("of %d, again: %d places", p, rounds)
		}
	}
}

// P11.1, and the rules: what is done to an answer is not seen in another one.
func TestOrderNew(t *testing.T) {
	for _, p := range theirs {
		got, _ := chain.Order(p, 0, 2)
		clear(got[:cap(got)])
		if again, e := chain.Order(p, 0, 2); !slices.Equal(again, order(p, 0, 2)) || e != api.OK {
			t.Errorf("of %d: %v, error %d", p, again, e)
		}
	}
}

// each is columns whose cells are told by their places.
func each(many, rows int, cell func(col, row int) []byte) []api.Column {
	l := make([]api.Column, many)
	for col := range l {
		l[col] = make(api.Column, rows)
		for row := range l[col] {
			l[col][row] = cell(col, row)
		}
	}
	return l
}

// numbered is columns whose cells hang on the seed alone.
func numbered(seed uint64, many, rows, length int) []api.Column {
	r := rand.New(rand.NewPCG(seed, 11))
	return each(many, rows, func(int, int) []byte {
		c := make([]byte, length)
		for i := range c {
			c[i] = byte(r.Uint32())
		}
		return c
	})
}

func noughts(many, rows, length int) []api.Column {
	return each(many, rows, func(int, int) []byte { return make([]byte, length) })
}

// copied is columns with nothing in common with those they are copies of.
func copied(l []api.Column) []api.Column {
	other := make([]api.Column, len(l))
	for col, c := range l {
		for _, cell := range c {
			other[col] = append(other[col], slices.Clone(cell))
		}
	}
	return other
}

func same(a, b []api.Column) bool {
	return slices.EqualFunc(a, b, func(a, b api.Column) bool { return slices.EqualFunc(a, b, bytes.Equal) })
}

// upon is two cells put upon one another.
func upon(a, b []byte) []byte {
	c := make([]byte, len(a))
	for i := range a {
		c[i] = a[i] ^ b[i]
	}
	return c
}

func bothUpon(a, b []api.Column) []api.Column {
	return each(len(a), len(a[0]), func(col, row int) []byte { return upon(a[col][row], b[col][row]) })
}

// whole is columns of data with those that EVENODD makes of them behind, by the
// document's words.
func whole(p int, data []api.Column) []api.Column {
	length := len(data[0][0])
	all := append(copied(data), noughts(2, p-1, length)...)
	adjuster := make([]byte, length)
	for col := range p {
		for row, c := range data[col] {
			all[p][row] = upon(all[p][row], c)
			if d := diagonal(p, api.At{Col: col, Row: row}); d < p-1 {
				all[p+1][d] = upon(all[p+1][d], c)
			} else {
				adjuster = upon(adjuster, c)
			}
		}
	}
	for row, c := range all[p+1] {
		all[p+1][row] = upon(c, adjuster)
	}
	return all
}

// stand is what may stand in the place of a column that is lost.
func stand(p, n, length int) api.Column {
	switch n % 7 {
	case 0:
		return nil
	case 1:
		return api.Column{}
	case 2:
		return make(api.Column, p-1)
	case 3:
		return numbered(uint64(n), 1, p-1, length)[0]
	case 4:
		return numbered(uint64(n), 1, p-1, length+1)[0]
	case 5:
		return numbered(uint64(n), 1, 3*p, 70)[0]
	}
	return append(noughts(1, p-2, length)[0], []byte{1, 2, 3})
}

// lost is columns, with something else in the place of some of them.
func lost(p, n int, all []api.Column, cols ...int) []api.Column {
	length := len(all[p+1][0])
	other := copied(all)
	for _, col := range cols {
		other[col] = stand(p, n, length)
		n++
	}
	return other
}
