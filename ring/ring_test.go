package ring_test

import (
	"bytes"
	"math"
	"math/rand/v2"
	"slices"
	"testing"

	"palisade/api"
	"palisade/ring"
)

// theirs is the primes by hand, so that the tests don't ask the layers below
// for them, as what is made is reckoned here by the document's words alone.
var theirs = []int{3, 5, 7, 11, 13, 17}

// noPrimes is numbers that are no prime of a code: those near, those far off,
// and such as would be one if they were cut to fewer bits.
var noPrimes = []int{
	math.MinInt, math.MinInt + 3, -1<<32 + 3, -1 << 31, -17, -5, -3, -2, -1,
	0, 1, 2, 4, 6, 8, 9, 10, 12, 14, 15, 16, 18, 19, 23, 29, 31, 37,
	1<<8 + 3, 1<<16 + 5, 1<<31 - 1, 1<<32 + 3, 1<<32 + 17, math.MaxInt - 1, math.MaxInt,
}

// someNumbers is numbers to turn by: those of some rounds either way, the ends of
// int, and multiples of the prime near these.
func someNumbers(p int) []int {
	l := []int{
		math.MinInt, math.MinInt + 1, -1<<32 - 1, -1 << 31, 1 << 31, 1<<32 + 1, math.MaxInt - 1, math.MaxInt,
		math.MinInt / p * p, math.MaxInt / p * p, 1000 * p, -1000 * p,
	}
	for n := -2*p - 1; n <= 2*p+1; n++ {
		l = append(l, n)
	}
	return l
}

// calls is the calls that take one column and a number.
var calls = []struct {
	name string
	call func(int, api.Column, int) (api.Column, api.Errno)
}{
	{"Turn", ring.Turn},
	{"Stretch", ring.Stretch},
	{"Slacken", ring.Slacken},
}

func column(rows int, cell func(row int) []byte) api.Column {
	c := make(api.Column, rows)
	for row := range c {
		c[row] = cell(row)
	}
	return c
}

// numbered is a column whose cells hang on the seed alone.
func numbered(seed uint64, rows, length int) api.Column {
	r := rand.New(rand.NewPCG(seed, 10))
	return column(rows, func(int) []byte {
		c := make([]byte, length)
		for i := range c {
			c[i] = byte(r.Uint32())
		}
		return c
	})
}

func noughts(rows, length int) api.Column {
	return column(rows, func(int) []byte { return make([]byte, length) })
}

// copied is a column with nothing in common with the one it is a copy of.
func copied(c api.Column) api.Column {
	return column(len(c), func(row int) []byte { return slices.Clone(c[row]) })
}

func same(a, b api.Column) bool { return slices.EqualFunc(a, b, bytes.Equal) }

// upon is two cells put upon one another.
func upon(a, b []byte) []byte {
	c := make([]byte, len(a))
	for i := range a {
		c[i] = a[i] ^ b[i]
	}
	return c
}

func bothUpon(a, b api.Column) api.Column {
	return column(len(a), func(row int) []byte { return upon(a[row], b[row]) })
}

// turned and stretched are what the document's words tell.
func turned(p int, c api.Column, by int) api.Column {
	from, to := append(copied(c), make([]byte, len(c[0]))), make(api.Column, p)
	for row := range p {
		to[(row+by%p+p)%p] = from[row]
	}
	return column(p-1, func(row int) []byte { return upon(to[row], to[p-1]) })
}

func stretched(p int, c api.Column, by int) api.Column { return bothUpon(c, turned(p, c, by)) }

// sure is an answer that can't be an error here.
func sure(t *testing.T) func(api.Column, api.Errno) api.Column {
	return func(c api.Column, e api.Errno) api.Column {
		t.Helper()
		if e != api.OK {
			t.Fatalf("error %d", e)
		}
		return c
	}
}

// asMade holds the calls of one column against the document's words.
func asMade(t *testing.T, p int, c api.Column, by int) {
	t.Helper()
	is(t, "Turn", p, c, by, turned(p, c, by))(ring.Turn(p, c, by))
	is(t, "Stretch", p, c, by, stretched(p, c, by))(ring.Stretch(p, c, by))
	slack, e := ring.Slacken(p, c, by)
	if by%p == 0 {
		if slack != nil || e != api.ErrArg {
			t.Errorf("Slacken(%d, %x, %d) = %x, error %d", p, c, by, slack, e)
		}
		return
	}
	if e != api.OK || len(slack) != p-1 || !same(stretched(p, slack, by), c) {
		t.Errorf("Slacken(%d, %x, %d) = %x, error %d", p, c, by, slack, e)
	}
}

func is(t *testing.T, name string, p int, c api.Column, by int, want api.Column) func(api.Column, api.Errno) {
	return func(got api.Column, e api.Errno) {
		t.Helper()
		if !same(got, want) || e != api.OK {
			t.Errorf("%s(%d, %x, %d) = %x, error %d, want %x", name, p, c, by, got, e, want)
		}
	}
}

// refused holds all calls against a column, or a prime, that may be none.
func refused(t *testing.T, p int, c api.Column) {
	t.Helper()
	for _, by := range []int{math.MinInt, -1, 0, 1, 2, p, math.MaxInt} {
		for _, row := range calls {
			if got, e := row.call(p, c, by); got != nil || e != api.ErrArg {
				t.Errorf("%s(%d, %x, %d) = %x, error %d", row.name, p, c, by, got, e)
			}
		}
	}
	noSum(t, p, c)
	noSum(t, p, c, c)
}

func noSum(t *testing.T, p int, l ...api.Column) {
	t.Helper()
	if got, e := ring.Sum(p, l...); got != nil || e != api.ErrArg {
		t.Errorf("Sum(%d, %x) = %x, error %d", p, l, got, e)
	}
}

// P10.1: the document's examples, and others by hand.
func TestRows(t *testing.T) {
	rows := []struct {
		p, by          int
		c, turned, was api.Column // was: what it is slackened
	}{
		{3, 1, api.Column{{1}, {2}}, api.Column{{2}, {3}}, api.Column{{2}, {3}}},
		{3, 2, api.Column{{1}, {2}}, api.Column{{3}, {1}}, api.Column{{3}, {1}}},
		{3, -1, api.Column{{1}, {2}}, api.Column{{3}, {1}}, api.Column{{3}, {1}}},
		{3, 1, api.Column{{3}, {1}}, api.Column{{1}, {2}}, api.Column{{1}, {2}}},
		{5, 1, api.Column{{1}, {2}, {4}, {8}}, api.Column{{8}, {9}, {10}, {12}}, api.Column{{14}, {3}, {8}, {15}}},
		{5, 2, api.Column{{1}, {2}, {4}, {8}}, api.Column{{12}, {4}, {5}, {6}}, api.Column{{4}, {13}, {15}, {10}}},
		{5, -6, api.Column{{1}, {2}, {4}, {8}}, api.Column{{3}, {5}, {9}, {1}}, api.Column{{15}, {1}, {12}, {7}}},
	}
	for _, r := range rows {
		is(t, "Turn", r.p, r.c, r.by, r.turned)(ring.Turn(r.p, r.c, r.by))
		is(t, "Stretch", r.p, r.c, r.by, bothUpon(r.c, r.turned))(ring.Stretch(r.p, r.c, r.by))
		is(t, "Slacken", r.p, r.c, r.by, r.was)(ring.Slacken(r.p, r.c, r.by))
	}
	is(t, "Stretch", 3, api.Column{{1}, {2}}, 1, api.Column{{3}, {1}})(ring.Stretch(3, api.Column{{1}, {2}}, 1))
	is(t, "Slacken", 3, api.Column{{3}, {1}}, 1, api.Column{{1}, {2}})(ring.Slacken(3, api.Column{{3}, {1}}, 1))
	if c, e := ring.Slacken(3, api.Column{{3}, {1}}, 3); c != nil || e != api.ErrArg {
		t.Errorf("Slacken by 3: %x, error %d", c, e)
	}
	is(t, "Sum", 3, nil, 0, api.Column{{1}, {2}})(ring.Sum(3, api.Column{{1}, {2}}))
	is(t, "Sum", 3, nil, 0, api.Column{{21}, {42}})(ring.Sum(3, api.Column{{1}, {2}}, api.Column{{4}, {8}}, api.Column{{16}, {32}}))
	is(t, "Sum", 3, nil, 0, api.Column{{0}, {0}})(ring.Sum(3, api.Column{{1}, {2}}, api.Column{{1}, {2}}))
}

// P10.1: any column, by any number, of each prime.
func TestAny(t *testing.T) {
	for _, p := range theirs {
		for _, by := range someNumbers(p) {
			asMade(t, p, numbered(uint64(p), p-1, 3), by)
			asMade(t, p, noughts(p-1, 2), by)
			asMade(t, p, column(p-1, func(int) []byte { return []byte{0xff} }), by)
		}
		for length := 1; length <= 64; length++ {
			asMade(t, p, numbered(uint64(p*100+length), p-1, length), length)
		}
	}
}

// P10.1: a column of one bit alone, at each place.
func TestOneBit(t *testing.T) {
	for _, p := range theirs {
		c := noughts(p-1, 2)
		for row := range c {
			c[row][row%2] = 1 << (row % 8)
			for by := -1; by <= p; by++ {
				asMade(t, p, c, by)
			}
			c[row][row%2] = 0
		}
	}
}

// P10.1: what is slackened is the one column, of all that there are: those of
// cells that have no bit but the lowest one.
func TestTheOne(t *testing.T) {
	for _, p := range []int{3, 5, 7, 11} {
		for by := 1; by < p; by++ {
			seen := make([]int, 1<<(p-1))
			for n := range seen {
				c := column(p-1, func(row int) []byte { return []byte{byte(n >> row & 1)} })
				s := stretched(p, c, by)
				at := 0
				for row := range s {
					at |= int(s[row][0]) << row
				}
				seen[at]++
				is(t, "Slacken", p, s, by, c)(ring.Slacken(p, s, by))
			}
			if slices.Max(seen) != 1 {
				t.Fatalf("of the prime %d, by %d: two columns are stretched to one", p, by)
			}
		}
	}
}

// P10.1: as many columns as one likes, also one and the same.
func TestSum(t *testing.T) {
	for _, p := range theirs {
		for _, length := range []int{1, 2, 63, 64} {
			var l []api.Column
			want := noughts(p-1, length)
			for many := range 40 {
				l = append(l, numbered(uint64(many), p-1, length))
				want = bothUpon(want, l[many])
				is(t, "Sum", p, nil, many, want)(ring.Sum(p, l...))
			}
			is(t, "Sum", p, nil, 0, noughts(p-1, length))(ring.Sum(p, l[0], l[0]))
			is(t, "Sum", p, nil, 0, l[0])(ring.Sum(p, l[0], l[1], l[1]))
			is(t, "Sum", p, nil, 0, l[0])(ring.Sum(p, l[1], l[0], l[1]))
		}
	}
}

// P10.1: what is none of the primes, with columns that would be right if it were
// one, and with columns of another one.
func TestNoPrime(t *testing.T) {
	for _, p := range noPrimes {
		refused(t, p, nil)
		for _, rows := range []int{0, 1, 2, 4, 16, 17} {
			refused(t, p, noughts(rows, 1))
		}
		if 0 < p && p < 40 {
			refused(t, p, noughts(p-1, 1))
		}
		noSum(t, p)
	}
	for _, p := range theirs {
		for _, other := range theirs {
			if p != other {
				refused(t, p, noughts(other-1, 1))
			}
		}
	}
}

// P10.1: no column, and one with a cell too few or too many: one with its last
// row's, too.
func TestHowManyCells(t *testing.T) {
	for _, p := range theirs {
		refused(t, p, nil)
		refused(t, p, api.Column{})
		refused(t, p, make(api.Column, p-1))
		for rows := range 3 * p {
			if rows != p-1 {
				refused(t, p, noughts(rows, 2))
			}
		}
	}
}

// P10.1: a cell that is none, or of another length, at each place.
func TestNoCells(t *testing.T) {
	for _, p := range theirs {
		for _, length := range []int{0, 65, 66, 128, 1000} {
			refused(t, p, noughts(p-1, length))
		}
		for row := range p - 1 {
			for _, length := range []int{1, 2, 64} {
				for _, other := range []int{0, length - 1, length + 1, 65} {
					c := noughts(p-1, length)
					c[row] = make([]byte, other)
					refused(t, p, c)
				}
			}
		}
	}
}

// P10.1: of Sum no columns, or one that does not belong to the others, wherever
// it stands.
func TestNoSum(t *testing.T) {
	for _, p := range theirs {
		noSum(t, p)
		noSum(t, p, []api.Column{}...)
		for at := range 4 {
			others := []api.Column{nil, noughts(p-2, 2), noughts(p, 2), noughts(p-1, 0), noughts(p-1, 65),
				noughts(p-1, 1), noughts(p-1, 3), append(noughts(p-2, 2), []byte{0})}
			for _, other := range others {
				l := []api.Column{numbered(1, p-1, 2), numbered(2, p-1, 2), numbered(3, p-1, 2), numbered(4, p-1, 2)}
				l[at] = other
				noSum(t, p, l...)
			}
		}
	}
}

// P10.1: a multiple of the prime slackens nothing, and stretches to noughts.
func TestMultiples(t *testing.T) {
	for _, p := range theirs {
		c := numbered(uint64(p), p-1, 4)
		for _, by := range []int{0, p, -p, 2 * p, -7 * p, math.MaxInt / p * p, math.MinInt / p * p} {
			if got, e := ring.Slacken(p, c, by); got != nil || e != api.ErrArg {
				t.Errorf("Slacken(%d, %x, %d) = %x, error %d", p, c, by, got, e)
			}
			is(t, "Stretch", p, c, by, noughts(p-1, 4))(ring.Stretch(p, c, by))
			is(t, "Turn", p, c, by, c)(ring.Turn(p, c, by))
		}
	}
}
