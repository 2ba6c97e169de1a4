package evenodd_test

import (
	"bytes"
	"math"
	"math/rand/v2"
	"slices"
	"testing"

	"palisade/api"
	"palisade/evenodd"
)

// theirs is the primes by hand, so that the tests don't ask the layers below
// for them, as what is made is reckoned here by the document's words alone.
var theirs = []int{3, 5, 7, 11, 13, 17}

// noPrimes is numbers that are no prime of a code: those near, those far off,
// and such as would be one if they were cut to fewer bits.
var noPrimes = []int{
	math.MinInt, math.MinInt + 3, -1<<32 + 3, -1 << 31, -17, -5, -3, -2, -1,
	0, 1, 2, 4, 6, 8, 9, 10, 12, 14, 15, 16, 18, 19, 23, 29, 31, 37,
	1<<8 + 3, 1<<16 + 5, 1<<31 - 1, 1<<32 + 3, 1<<32 + 17, math.MaxInt - 1, math.MaxInt,
}

// numbered is columns whose cells hang on the seed alone.
func numbered(seed uint64, many, rows, length int) []api.Column {
	r := rand.New(rand.NewPCG(seed, 6))
	return each(many, rows, func(int, int) []byte {
		c := make([]byte, length)
		for i := range c {
			c[i] = byte(r.Uint32())
		}
		return c
	})
}

// each is columns whose cells are told by their places.
func each(many, rows int, cell func(col, row int) []byte) []api.Column {
	l := make([]api.Column, many)
	for col := range l {
		for row := range rows {
			l[col] = append(l[col], cell(col, row))
		}
	}
	return l
}

func noughts(many, rows, length int) []api.Column {
	return each(many, rows, func(int, int) []byte { return make([]byte, length) })
}

// copied is columns with nothing in common with those they are a copy of.
func copied(l []api.Column) []api.Column {
	other := make([]api.Column, len(l))
	for i, col := range l {
		for _, c := range col {
			other[i] = append(other[i], slices.Clone(c))
		}
	}
	return other
}

func same(a, b []api.Column) bool {
	return slices.EqualFunc(a, b, func(x, y api.Column) bool {
		return slices.EqualFunc(x, y, bytes.Equal)
	})
}

// sum is those data cells that are such, put upon one another.
func sum(data []api.Column, such func(col, row int) bool) []byte {
	c := make([]byte, len(data[0][0]))
	for col := range data {
		for row := range data[col] {
			for i, x := range data[col][row] {
				if such(col, row) {
					c[i] ^= x
				}
			}
		}
	}
	return c
}

// adjuster and encoded are what the document's words tell.
func adjuster(p int, data []api.Column) []byte {
	return sum(data, func(col, row int) bool { return (col+row)%p == p-1 })
}

func encoded(p int, data []api.Column) []api.Column {
	return each(2, p-1, func(role, made int) []byte {
		if role == 0 {
			return sum(data, func(_, row int) bool { return row == made })
		}
		return upon(adjuster(p, data), sum(data, func(col, row int) bool { return (col+row)%p == made }))
	})
}

// upon is two cells put upon one another.
func upon(a, b []byte) []byte {
	c := make([]byte, len(a))
	for i := range a {
		c[i] = a[i] ^ b[i]
	}
	return c
}

func bothUpon(a, b []api.Column) []api.Column {
	return each(len(a), len(a[0]), func(col, row int) []byte { return upon(a[col][row], b[col][row]) })
}

func mustEncode(t *testing.T, p int, data []api.Column) []api.Column {
	t.Helper()
	l, e := evenodd.Encode(p, data)
	if e != api.OK {
		t.Fatalf("Encode of the prime %d: error %d", p, e)
	}
	return l
}

// asMade holds all three calls that reckon against the document's words.
func asMade(t *testing.T, p int, data []api.Column) {
	t.Helper()
	if c, e := evenodd.Adjuster(p, data); !bytes.Equal(c, adjuster(p, data)) || e != api.OK {
		t.Errorf("Adjuster(%d, %x) = %x, error %d, want %x", p, data, c, e, adjuster(p, data))
	}
	want := encoded(p, data)
	if l, e := evenodd.Encode(p, data); !same(l, want) || e != api.OK {
		t.Errorf("Encode(%d, %x) = %x, error %d, want %x", p, data, l, e, want)
	}
	checked(t, p, slices.Concat(data, want), true)
}

func checked(t *testing.T, p int, all []api.Column, want bool) {
	t.Helper()
	if is, e := evenodd.Check(p, all); is != want || e != api.OK {
		t.Errorf("Check(%d, %x) = %v, error %d", p, all, is, e)
	}
}

// refused holds all calls against columns that may be none of them.
func refused(t *testing.T, p int, l []api.Column) {
	t.Helper()
	if evenodd.Right(p, l) {
		t.Errorf("Right(%d, %x)", p, l)
	}
	noData(t, p, l)
	notAll(t, p, l)
}

// noData holds the calls that ask for columns of data against others.
func noData(t *testing.T, p int, l []api.Column) {
	t.Helper()
	if c, e := evenodd.Adjuster(p, l); c != nil || e != api.ErrArg {
		t.Errorf("Adjuster(%d, %x) = %x, error %d", p, l, c, e)
	}
	if m, e := evenodd.Encode(p, l); m != nil || e != api.ErrArg {
		t.Errorf("Encode(%d, %x) = %x, error %d", p, l, m, e)
	}
}

// notAll holds the call that asks for all columns against others.
func notAll(t *testing.T, p int, l []api.Column) {
	t.Helper()
	if is, e := evenodd.Check(p, l); is || e != api.ErrArg {
		t.Errorf("Check(%d, %x) = %v, error %d", p, l, is, e)
	}
}

// P6.1, P6.2: the document's example, and others by hand.
func TestRows(t *testing.T) {
	rows := []struct {
		data, made []api.Column
		adjuster   byte
	}{
		{[]api.Column{{{1}, {2}}, {{4}, {8}}, {{16}, {32}}}, []api.Column{{{21}, {42}}, {{57}, {30}}}, 24},
		{[]api.Column{{{1}, {0}}, {{0}, {0}}, {{0}, {0}}}, []api.Column{{{1}, {0}}, {{1}, {0}}}, 0},
		{[]api.Column{{{0}, {1}}, {{0}, {0}}, {{0}, {0}}}, []api.Column{{{0}, {1}}, {{0}, {1}}}, 0},
		{[]api.Column{{{0}, {0}}, {{0}, {1}}, {{0}, {0}}}, []api.Column{{{0}, {1}}, {{1}, {1}}}, 1},
		{[]api.Column{{{0}, {0}}, {{0}, {0}}, {{1}, {0}}}, []api.Column{{{1}, {0}}, {{1}, {1}}}, 1},
		{[]api.Column{{{0}, {0}}, {{0}, {0}}, {{0}, {1}}}, []api.Column{{{0}, {1}}, {{1}, {0}}}, 0},
	}
	for _, r := range rows {
		if c, e := evenodd.Adjuster(3, r.data); !bytes.Equal(c, []byte{r.adjuster}) || e != api.OK {
			t.Errorf("Adjuster(3, %x) = %x, error %d", r.data, c, e)
		}
		if l := mustEncode(t, 3, r.data); !same(l, r.made) {
			t.Errorf("Encode(3, %x) = %x", r.data, l)
		}
		checked(t, 3, slices.Concat(r.data, r.made), true)
		noData(t, 3, r.data[:2])
		refused(t, 4, r.data)
	}
}

// P6.1: columns of any number from 1 on belong together, of each prime, of
// cells of each length.
func TestRight(t *testing.T) {
	for _, p := range theirs {
		for many := 1; many <= 40; many++ {
			if !evenodd.Right(p, numbered(uint64(many), many, p-1, 3)) {
				t.Errorf("Right of %d columns of the prime %d is false", many, p)
			}
		}
		for length := 1; length <= 64; length++ {
			for _, many := range []int{1, 2, p, p + 2} {
				if !evenodd.Right(p, numbered(uint64(length), many, p-1, length)) {
					t.Errorf("Right of cells of %d bytes of the prime %d is false", length, p)
				}
			}
		}
	}
}

// P6.1, P6.2: no columns at all, and columns of another number than must be.
func TestHowMany(t *testing.T) {
	for _, p := range theirs {
		refused(t, p, nil)
		refused(t, p, []api.Column{})
		for many := 1; many < 2*p+4; many++ {
			l := noughts(many, p-1, 2)
			if many != p {
				noData(t, p, l)
			}
			if many != p+2 {
				notAll(t, p, l)
			}
		}
	}
}

// P6.1, P6.2: what is none of the primes, with columns that would be right if
// it were one, and with columns of another one.
func TestNoPrime(t *testing.T) {
	for _, p := range noPrimes {
		refused(t, p, nil)
		for _, many := range []int{1, 3, 5, 19} {
			refused(t, p, numbered(1, many, 2, 1))
			refused(t, p, noughts(many, 0, 1))
		}
		if 0 < p && p < 40 {
			refused(t, p, noughts(p, p-1, 1))
			refused(t, p, noughts(p+2, p-1, 1))
		}
	}
	for _, p := range theirs {
		for _, other := range theirs {
			if p != other {
				refused(t, p, noughts(p, other-1, 1))
				refused(t, p, noughts(p+2, other-1, 1))
			}
		}
	}
}

// P6.1, P6.2: a column with a cell too few or too many, wherever it stands.
func TestHowManyCells(t *testing.T) {
	for _, p := range theirs {
		for _, many := range []int{1, p, p + 2} {
			for at := range many {
				for _, rows := range []int{0, 1, p - 2, p, p + 1, 2 * (p - 1)} {
					if rows != p-1 {
						l := noughts(many, p-1, 1)
						l[at] = noughts(1, rows, 1)[0]
						refused(t, p, l)
					}
				}
			}
		}
		for _, many := range []int{1, p, p + 2} {
			refused(t, p, noughts(many, p, 1))
			refused(t, p, noughts(many, p-2, 1))
			refused(t, p, make([]api.Column, many))
		}
	}
}

// P6.1, P6.2: a cell that is none, or of another length, at each place; and
// cells that are all none, of one length.
func TestNoCells(t *testing.T) {
	for _, p := range theirs {
		for _, many := range []int{1, p, p + 2} {
			for _, length := range []int{0, 65, 66, 128, 1000} {
				refused(t, p, noughts(many, p-1, length))
			}
			for n := range many * (p - 1) {
				for _, length := range []int{1, 2, 64} {
					for _, other := range []int{0, length - 1, length + 1, 2*length + 1, 65} {
						l := noughts(many, p-1, length)
						l[n/(p-1)][n%(p-1)] = make([]byte, other)
						refused(t, p, l)
					}
				}
			}
		}
	}
}

// P6.1, P6.2: any data, of each prime, of cells of each length.
func TestAny(t *testing.T) {
	for _, p := range theirs {
		for length := 1; length <= 64; length++ {
			asMade(t, p, numbered(uint64(p*100+length), p, p-1, length))
		}
		asMade(t, p, noughts(p, p-1, 1))
		asMade(t, p, each(p, p-1, func(int, int) []byte { return []byte{0xff, 0xff} }))
	}
}

// P6.1: data of one bit alone, at each place.
func TestOneBit(t *testing.T) {
	for _, p := range theirs {
		data := noughts(p, p-1, 2)
		for n := range p * (p - 1) {
			c := data[n%p][n/p]
			c[n%2] = 1 << (n % 8)
			asMade(t, p, data)
			c[n%2] = 0
		}
	}
}

// P6.2: a bit that is another one is seen, whatever column it is of; so are
// columns that stand the other way round.
func TestCheckSees(t *testing.T) {
	for _, p := range theirs {
		data := numbered(uint64(p), p, p-1, 2)
		all := slices.Concat(data, encoded(p, data))
		for n := range (p + 2) * (p - 1) {
			c := all[n/(p-1)][n%(p-1)]
			for bit := range 16 {
				c[bit/8] ^= 1 << (bit % 8)
				checked(t, p, all, false)
				c[bit/8] ^= 1 << (bit % 8)
			}
		}
		checked(t, p, all, true)
		all[p], all[p+1] = all[p+1], all[p]
		checked(t, p, all, false)
	}
}

// P6.2: the two columns must be those that EVENODD makes, not those without the
// adjuster, nor noughts.
func TestCheckWithoutAdjuster(t *testing.T) {
	for _, p := range theirs {
		data := numbered(uint64(p), p, p-1, 1)
		made := encoded(p, data)
		a := adjuster(p, data)
		if bytes.Equal(a, []byte{0}) {
			t.Fatalf("the data of the prime %d have no adjuster", p)
		}
		without := each(1, p-1, func(_, row int) []byte { return upon(made[1][row], a) })
		checked(t, p, slices.Concat(data, made[:1], without), false)
		checked(t, p, slices.Concat(data, made[:1], noughts(1, p-1, 1)), false)
		checked(t, p, slices.Concat(data, noughts(2, p-1, 1)), false)
		checked(t, p, noughts(p+2, p-1, 1), true)
	}
}

// roomy is columns whose lists and cells have something in the room behind them:
// the one that follows. unchanged tells whether all of it still stands there.
func roomy(p, many, length int) (cols []api.Column, unchanged func() bool) {
	memory := numbered(uint64(p), 1, 1, (many*(p-1)+1)*length)[0][0]
	cells := make(api.Column, many*(p-1)+1)
	for n := range cells {
		cells[n] = memory[n*length : (n+1)*length]
	}
	var all []api.Column
	for col := range many {
		all = append(all, cells[col*(p-1):(col+1)*(p-1)])
	}
	all = append(all, cells[many*(p-1):])
	were, wasMemory := copied(all), slices.Clone(memory)
	return all[:many], func() bool { return same(all, were) && bytes.Equal(memory, wasMemory) }
}

// P6.1, P6.2, and the rules: what is handed in is not changed, spare room
// included.
func TestHandedIn(t *testing.T) {
	for _, p := range theirs {
		data, unchanged := roomy(p, p, 3)
		asMade(t, p, data)
		if !evenodd.Right(p, data) {
			t.Errorf("Right of the prime %d is false", p)
		}
		if !unchanged() {
			t.Errorf("what was handed in of the prime %d is changed", p)
		}
		all, unchanged := roomy(p, p+2, 3)
		checked(t, p, all, false)
		if !unchanged() {
			t.Errorf("what was checked of the prime %d is changed", p)
		}
	}
}

// scribbled writes on a cell, and on the room behind it.
func scribbled(c []byte) {
	c = c[:cap(c)]
	for i := range c {
		c[i] ^= 0xff
	}
}

// P6.1, and the rules: answers are new memory, room behind them included. What
// is done to one cell of an answer is seen in that one alone.
func TestNewMemory(t *testing.T) {
	for _, p := range theirs {
		data := numbered(uint64(p), p, p-1, 5)
		was, want := copied(data), encoded(p, data)
		for n := range 2 * (p - 1) {
			l, other := mustEncode(t, p, data), mustEncode(t, p, data)
			scribbledOn := copied(want)
			scribbled(l[n/(p-1)][n%(p-1)])
			scribbled(scribbledOn[n/(p-1)][n%(p-1)][:5:5])
			_ = append(l[0], []byte{1})
			if !same(l, scribbledOn) || !same(other, want) || !same(data, was) {
				t.Errorf("what is done to the cell %d of an answer of the prime %d is seen", n, p)
			}
		}
		a, _ := evenodd.Adjuster(p, data)
		scribbled(a)
		if again, _ := evenodd.Adjuster(p, data); !bytes.Equal(again, adjuster(p, was)) || !same(data, was) {
			t.Errorf("what is done to an adjuster of the prime %d is seen", p)
		}
	}
}

// P6.1, and the rules: what is handed in is not kept.
func TestNotKept(t *testing.T) {
	for _, p := range theirs {
		data := numbered(uint64(p), p, p-1, 4)
		want, wantAdjuster := encoded(p, data), adjuster(p, data)
		l := mustEncode(t, p, data)
		a, _ := evenodd.Adjuster(p, data)
		for _, col := range data {
			for _, c := range col {
				scribbled(c)
			}
			clear(col)
		}
		clear(data)
		if !same(l, want) || !bytes.Equal(a, wantAdjuster) {
			t.Errorf("what is done to the data of the prime %d later is seen", p)
		}
	}
}

// P6.1: cells, and columns, may be the same piece of memory.
func TestOneMemory(t *testing.T) {
	for _, p := range theirs {
		c := []byte{1, 0x80}
		asMade(t, p, each(p, p-1, func(int, int) []byte { return c }))
		data := numbered(uint64(p), 1, p-1, 2)
		for len(data) < p {
			data = append(data, data[0])
		}
		asMade(t, p, data)
	}
}

// P6.3: all cells of both columns that are made are the adjuster.
func TestAllCellsMade(t *testing.T) {
	for _, p := range theirs {
		for seed := range uint64(20) {
			data := numbered(seed, p, p-1, 7)
			all := sum(mustEncode(t, p, data), func(int, int) bool { return true })
			if a, e := evenodd.Adjuster(p, data); !bytes.Equal(a, all) || e != api.OK {
				t.Errorf("the prime %d: all cells are %x, the adjuster %x, error %d", p, all, a, e)
			}
		}
	}
}

// P6.3: what is made of two lists of columns goes upon one another as they do.
func TestUponOneAnother(t *testing.T) {
	for _, p := range theirs {
		for seed := range uint64(20) {
			a, b := numbered(seed, p, p-1, 7), numbered(seed+100, p, p-1, 7)
			both := mustEncode(t, p, bothUpon(a, b))
			if want := bothUpon(mustEncode(t, p, a), mustEncode(t, p, b)); !same(both, want) {
				t.Errorf("the prime %d: %x, want %x", p, both, want)
			}
		}
	}
}

// P6.3: each byte of cells is encoded by itself.
func TestByteByByte(t *testing.T) {
	for _, p := range theirs {
		data := numbered(uint64(p), p, p-1, 64)
		made := mustEncode(t, p, data)
		for i := range 64 {
			alone := func(l []api.Column) []api.Column {
				return each(len(l), p-1, func(col, row int) []byte { return l[col][row][i : i+1] })
			}
			if l := mustEncode(t, p, alone(data)); !same(l, alone(made)) {
				t.Errorf("the prime %d, the byte %d: %x", p, i, l)
			}
		}
	}
}

// round is a column that goes round by one: with a nought in the row P - 1
// each cell goes a row on, and what is in that row then goes upon all.
func round(c api.Column) api.Column {
	last := c[len(c)-1]
	turned := api.Column{slices.Clone(last)}
	for _, x := range c[:len(c)-1] {
		turned = append(turned, upon(x, last))
	}
	return turned
}

// P6.3: where columns of data go one to the right, that of rows stays, and that
// of diagonals goes round by one; as often as the prime, it is as it was.
func TestToTheRight(t *testing.T) {
	for _, p := range theirs {
		data := numbered(uint64(p), p, p-1, 3)
		first := mustEncode(t, p, data)
		made := first
		for range p {
			data = slices.Concat(data[p-1:], data[:p-1])
			want := []api.Column{made[0], round(made[1])}
			if made = mustEncode(t, p, data); !same(made, want) {
				t.Errorf("the prime %d: %x, want %x", p, made, want)
			}
		}
		if !same(made, first) {
			t.Errorf("the prime %d, once round: %x, want %x", p, made, first)
		}
	}
}
