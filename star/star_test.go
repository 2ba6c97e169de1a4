package star_test

import (
	"bytes"
	"math"
	"math/rand/v2"
	"slices"
	"testing"

	"palisade/api"
	"palisade/star"
)

// theirs is the primes by hand, so that the tests don't ask the layers below
// for them, as what is made is reckoned here by the document's words alone.
var theirs = []int{3, 5, 7, 11, 13, 17}

// noPrimes is numbers that are no prime of a code: those near, those far off,
// and such as would be one if they were cut to fewer bits.
var noPrimes = []int{
	math.MinInt, math.MinInt + 3, -1<<32 + 3, -1 << 31, -17, -5, -3, -2, -1,
	0, 1, 2, 4, 6, 8, 9, 10, 12, 14, 15, 16, 18, 19, 23, 29, 31, 37,
	1<<8 + 3, 1<<16 + 5, 1<<31 - 1, 1<<32 + 3, 1<<32 + 17, math.MaxInt - 1, math.MaxInt,
}

// numbered is columns whose cells hang on the seed alone.
func numbered(seed uint64, many, rows, length int) []api.Column {
	r := rand.New(rand.NewPCG(seed, 8))
	return each(many, rows, func(int, int) []byte {
		c := make([]byte, length)
		for i := range c {
			c[i] = byte(r.Uint32())
		}
		return c
	})
}

// each is columns whose cells are told by their places.
func each(many, rows int, cell func(col, row int) []byte) []api.Column {
	l := make([]api.Column, many)
	for col := range l {
		for row := range rows {
			l[col] = append(l[col], cell(col, row))
		}
	}
	return l
}

func noughts(many, rows, length int) []api.Column {
	return each(many, rows, func(int, int) []byte { return make([]byte, length) })
}

// copied is columns with nothing in common with those they are a copy of.
func copied(l []api.Column) []api.Column {
	other := make([]api.Column, len(l))
	for i, col := range l {
		for _, c := range col {
			other[i] = append(other[i], slices.Clone(c))
		}
	}
	return other
}

func same(a, b []api.Column) bool {
	return slices.EqualFunc(a, b, func(x, y api.Column) bool {
		return slices.EqualFunc(x, y, bytes.Equal)
	})
}

// sum is those cells that are such, put upon one another.
func sum(l []api.Column, such func(col, row int) bool) []byte {
	c := make([]byte, len(l[0][0]))
	for col := range l {
		for row := range l[col] {
			for i, x := range l[col][row] {
				if such(col, row) {
					c[i] ^= x
				}
			}
		}
	}
	return c
}

// onDiagonal and onSlant are the data cells of one, put upon one another.
func onDiagonal(p int, data []api.Column, diagonal int) []byte {
	return sum(data, func(col, row int) bool { return (col+row)%p == diagonal })
}

func onSlant(p int, data []api.Column, slant int) []byte {
	return sum(data, func(col, row int) bool { return (row-col+p)%p == slant })
}

// encoded and over are what the document's words tell.
func encoded(p int, data []api.Column) []api.Column {
	return each(3, p-1, func(role, made int) []byte {
		switch role {
		case 0:
			return sum(data, func(_, row int) bool { return row == made })
		case 1:
			return upon(onDiagonal(p, data, p-1), onDiagonal(p, data, made))
		}
		return upon(onSlant(p, data, p-1), onSlant(p, data, made))
	})
}

func over(data []api.Column) []api.Column {
	l := []api.Column{data[0]}
	for col := len(data) - 1; col > 0; col-- {
		l = append(l, data[col])
	}
	return l
}

// whole is data with what is made of them.
func whole(p int, data []api.Column) []api.Column { return slices.Concat(data, encoded(p, data)) }

// upon is two cells put upon one another.
func upon(a, b []byte) []byte {
	c := make([]byte, len(a))
	for i := range a {
		c[i] = a[i] ^ b[i]
	}
	return c
}

func bothUpon(a, b []api.Column) []api.Column {
	return each(len(a), len(a[0]), func(col, row int) []byte { return upon(a[col][row], b[col][row]) })
}

func mustEncode(t *testing.T, p int, data []api.Column) []api.Column {
	t.Helper()
	l, e := star.Encode(p, data)
	if e != api.OK {
		t.Fatalf("Encode of the prime %d: error %d", p, e)
	}
	return l
}

func mustOver(t *testing.T, p int, data []api.Column) []api.Column {
	t.Helper()
	l, e := star.Over(p, data)
	if e != api.OK {
		t.Fatalf("Over of the prime %d: error %d", p, e)
	}
	return l
}

// asMade holds all calls against the document's words.
func asMade(t *testing.T, p int, data []api.Column) {
	t.Helper()
	want := encoded(p, data)
	if l, e := star.Encode(p, data); !same(l, want) || e != api.OK {
		t.Errorf("Encode(%d, %x) = %x, error %d, want %x", p, data, l, e, want)
	}
	if c, e := star.Adjuster(p, data); !bytes.Equal(c, onSlant(p, data, p-1)) || e != api.OK {
		t.Errorf("Adjuster(%d, %x) = %x, error %d, want %x", p, data, c, e, onSlant(p, data, p-1))
	}
	if l, e := star.Over(p, data); !same(l, over(data)) || e != api.OK {
		t.Errorf("Over(%d, %x) = %x, error %d, want %x", p, data, l, e, over(data))
	}
	slanted(t, p, data)
	checked(t, p, slices.Concat(data, want), true)
}

// slanted holds Slants against the document's words.
func slanted(t *testing.T, p int, data []api.Column) {
	t.Helper()
	rounds := 0
	for slant, c := range star.Slants(p, data) {
		if slant != rounds || !bytes.Equal(c, onSlant(p, data, rounds)) {
			t.Errorf("Slants(%d, %x): %d %x, want %d %x", p, data, slant, c, rounds, onSlant(p, data, rounds))
		}
		rounds++
	}
	if rounds != p {
		t.Errorf("Slants(%d, %x): %d of them", p, data, rounds)
	}
}

func checked(t *testing.T, p int, all []api.Column, want bool) {
	t.Helper()
	if is, e := star.Check(p, all); is != want || e != api.OK {
		t.Errorf("Check(%d, %x) = %v, error %d", p, all, is, e)
	}
}

// refused holds all calls against columns that may be none of them.
func refused(t *testing.T, p int, l []api.Column) {
	t.Helper()
	noData(t, p, l)
	notAll(t, p, l)
}

// noData holds the calls that ask for columns of data against others.
func noData(t *testing.T, p int, l []api.Column) {
	t.Helper()
	if m, e := star.Encode(p, l); m != nil || e != api.ErrArg {
		t.Errorf("Encode(%d, %x) = %x, error %d", p, l, m, e)
	}
	if c, e := star.Adjuster(p, l); c != nil || e != api.ErrArg {
		t.Errorf("Adjuster(%d, %x) = %x, error %d", p, l, c, e)
	}
	if m, e := star.Over(p, l); m != nil || e != api.ErrArg {
		t.Errorf("Over(%d, %x) = %x, error %d", p, l, m, e)
	}
	slants := star.Slants(p, l)
	if slants == nil {
		t.Fatalf("Slants(%d, %x) is not there", p, l)
	}
	for slant, c := range slants {
		t.Errorf("Slants(%d, %x): %d %x", p, l, slant, c)
	}
}

// notAll holds the call that asks for all columns against others.
func notAll(t *testing.T, p int, l []api.Column) {
	t.Helper()
	if is, e := star.Check(p, l); is || e != api.ErrArg {
		t.Errorf("Check(%d, %x) = %v, error %d", p, l, is, e)
	}
}

// P8.1, P8.2: the document's example, and others by hand.
func TestRows(t *testing.T) {
	rows := []struct {
		data, made, over []api.Column
		slants           [3]byte // the last one is the adjuster
	}{
		{[]api.Column{{{1}, {2}}, {{4}, {8}}, {{16}, {32}}}, []api.Column{{{21}, {42}}, {{57}, {30}}, {{45}, {54}}},
			[]api.Column{{{1}, {2}}, {{16}, {32}}, {{4}, {8}}}, [3]byte{9, 18, 36}},
		{[]api.Column{{{1}, {0}}, {{0}, {0}}, {{0}, {0}}}, []api.Column{{{1}, {0}}, {{1}, {0}}, {{1}, {0}}},
			[]api.Column{{{1}, {0}}, {{0}, {0}}, {{0}, {0}}}, [3]byte{1, 0, 0}},
		{[]api.Column{{{0}, {1}}, {{0}, {0}}, {{0}, {0}}}, []api.Column{{{0}, {1}}, {{0}, {1}}, {{0}, {1}}},
			[]api.Column{{{0}, {1}}, {{0}, {0}}, {{0}, {0}}}, [3]byte{0, 1, 0}},
		{[]api.Column{{{0}, {0}}, {{1}, {0}}, {{0}, {0}}}, []api.Column{{{1}, {0}}, {{0}, {1}}, {{1}, {1}}},
			[]api.Column{{{0}, {0}}, {{0}, {0}}, {{1}, {0}}}, [3]byte{0, 0, 1}},
		{[]api.Column{{{0}, {0}}, {{0}, {1}}, {{0}, {0}}}, []api.Column{{{0}, {1}}, {{1}, {1}}, {{1}, {0}}},
			[]api.Column{{{0}, {0}}, {{0}, {0}}, {{0}, {1}}}, [3]byte{1, 0, 0}},
		{[]api.Column{{{0}, {0}}, {{0}, {0}}, {{1}, {0}}}, []api.Column{{{1}, {0}}, {{1}, {1}}, {{0}, {1}}},
			[]api.Column{{{0}, {0}}, {{1}, {0}}, {{0}, {0}}}, [3]byte{0, 1, 0}},
		{[]api.Column{{{0}, {0}}, {{0}, {0}}, {{0}, {1}}}, []api.Column{{{0}, {1}}, {{1}, {0}}, {{1}, {1}}},
			[]api.Column{{{0}, {0}}, {{0}, {1}}, {{0}, {0}}}, [3]byte{0, 0, 1}},
	}
	for _, r := range rows {
		if l := mustEncode(t, 3, r.data); !same(l, r.made) {
			t.Errorf("Encode(3, %x) = %x", r.data, l)
		}
		if c, e := star.Adjuster(3, r.data); !bytes.Equal(c, r.slants[2:]) || e != api.OK {
			t.Errorf("Adjuster(3, %x) = %x, error %d", r.data, c, e)
		}
		if l := mustOver(t, 3, r.data); !same(l, r.over) {
			t.Errorf("Over(3, %x) = %x", r.data, l)
		}
		var got []byte
		for _, c := range star.Slants(3, r.data) {
			got = append(got, c...)
		}
		if !bytes.Equal(got, r.slants[:]) {
			t.Errorf("Slants(3, %x): %x", r.data, got)
		}
		all := slices.Concat(r.data, r.made)
		checked(t, 3, all, true)
		notAll(t, 3, r.data)
		notAll(t, 3, all[:5])
		noData(t, 3, all)
		refused(t, 3, r.data[:2])
		refused(t, 4, r.data)
		refused(t, 4, all)
	}
}

// P8.1, P8.2: no columns at all, and columns of another number than must be.
func TestHowMany(t *testing.T) {
	for _, p := range theirs {
		refused(t, p, nil)
		refused(t, p, []api.Column{})
		for many := 1; many < 2*p+4; many++ {
			l := noughts(many, p-1, 2)
			if many != p {
				noData(t, p, l)
			}
			if many != p+3 {
				notAll(t, p, l)
			}
		}
	}
}

// P8.1, P8.2: what is none of the primes, with columns that would be right if
// it were one, and with columns of another one.
func TestNoPrime(t *testing.T) {
	for _, p := range noPrimes {
		refused(t, p, nil)
		for _, many := range []int{1, 3, 5, 6, 17, 20} {
			refused(t, p, numbered(1, many, 2, 1))
			refused(t, p, noughts(many, 0, 1))
		}
		if 0 < p && p < 40 {
			refused(t, p, noughts(p, p-1, 1))
			refused(t, p, noughts(p+3, p-1, 1))
		}
	}
	for _, p := range theirs {
		for _, other := range theirs {
			if p != other {
				refused(t, p, noughts(p, other-1, 1))
				refused(t, p, noughts(p+3, other-1, 1))
			}
		}
	}
}

// P8.1, P8.2: a column with a cell too few or too many, wherever it stands.
func TestHowManyCells(t *testing.T) {
	for _, p := range theirs {
		for _, many := range []int{p, p + 3} {
			for at := range many {
				for _, rows := range []int{0, 1, p - 2, p, p + 1, 2 * (p - 1)} {
					if rows != p-1 {
						l := noughts(many, p-1, 1)
						l[at] = noughts(1, rows, 1)[0]
						refused(t, p, l)
					}
				}
			}
			refused(t, p, noughts(many, p, 1))
			refused(t, p, noughts(many, p-2, 1))
			refused(t, p, make([]api.Column, many))
		}
	}
}

// P8.1, P8.2: a cell that is none, or of another length, at each place; and
// cells that are all none, of one length.
func TestNoCells(t *testing.T) {
	for _, p := range theirs {
		for _, many := range []int{p, p + 3} {
			for _, length := range []int{0, 65, 66, 128, 1000} {
				refused(t, p, noughts(many, p-1, length))
			}
			for n := range many * (p - 1) {
				for _, length := range []int{1, 2, 64} {
					for _, other := range []int{0, length - 1, length + 1, 65} {
						l := noughts(many, p-1, length)
						l[n/(p-1)][n%(p-1)] = make([]byte, other)
						refused(t, p, l)
					}
				}
			}
		}
	}
}

// P8.1, P8.2: any data, of each prime, of cells of each length.
func TestAny(t *testing.T) {
	for _, p := range theirs {
		for length := 1; length <= 64; length++ {
			asMade(t, p, numbered(uint64(p*100+length), p, p-1, length))
		}
		asMade(t, p, noughts(p, p-1, 1))
		asMade(t, p, each(p, p-1, func(int, int) []byte { return []byte{0xff, 0xff} }))
	}
}

// P8.1, P8.2: data of one bit alone, at each place.
func TestOneBit(t *testing.T) {
	for _, p := range theirs {
		data := noughts(p, p-1, 2)
		for n := range p * (p - 1) {
			c := data[n%p][n/p]
			c[n%2] = 1 << (n % 8)
			asMade(t, p, data)
			c[n%2] = 0
		}
	}
}

// P8.2: a bit that is another one is seen, whatever column it is of; so are
// columns that stand the other way round.
func TestCheckSees(t *testing.T) {
	for _, p := range theirs {
		all := whole(p, numbered(uint64(p), p, p-1, 2))
		for n := range (p + 3) * (p - 1) {
			c := all[n/(p-1)][n%(p-1)]
			for _, bit := range []int{n % 16, (n + 7) % 16, (n + 10) % 16} {
				c[bit/8] ^= 1 << (bit % 8)
				checked(t, p, all, false)
				c[bit/8] ^= 1 << (bit % 8)
			}
		}
		checked(t, p, all, true)
		for a := range p + 3 {
			for b := range a {
				all[a], all[b] = all[b], all[a]
				checked(t, p, all, false)
				all[a], all[b] = all[b], all[a]
			}
		}
		checked(t, p, all, true)
	}
}

// P8.2: the last three must be those that STAR makes: not those without an
// adjuster, nor with the other one's, nor noughts.
func TestCheckOthers(t *testing.T) {
	for _, p := range theirs {
		data := numbered(uint64(p), p, p-1, 3)
		made := encoded(p, data)
		adjusters := [2][]byte{onDiagonal(p, data, p-1), onSlant(p, data, p-1)}
		both := upon(adjusters[0], adjusters[1])
		for role := 1; role <= 2; role++ {
			for _, by := range [][]byte{adjusters[role-1], both} {
				other := copied(made)
				for row, c := range other[role] {
					other[role][row] = upon(c, by)
				}
				checked(t, p, slices.Concat(data, other), false)
			}
		}
		for role := range 3 {
			other := copied(made)
			other[role] = noughts(1, p-1, 3)[0]
			checked(t, p, slices.Concat(data, other), false)
		}
		checked(t, p, slices.Concat(data, noughts(3, p-1, 3)), false)
		checked(t, p, noughts(p+3, p-1, 3), true)
	}
}

// P8.2: slants may be left behind each of them: nothing is told behind that.
func TestSlantsLeft(t *testing.T) {
	for _, p := range theirs {
		slants := star.Slants(p, numbered(uint64(p), p, p-1, 2))
		for stop := range p {
			var got []int
			slants(func(slant int, _ []byte) bool {
				got = append(got, slant)
				return slant < stop
			})
			if len(got) != stop+1 || got[stop] != stop {
				t.Errorf("the prime %d, left behind %d: %v", p, stop, got)
			}
		}
	}
}

// P8.2: slants may be gone over again, within themselves, too; what is done to
// a cell that one round tells is not seen in another round, nor in the data.
func TestSlantsAgain(t *testing.T) {
	for _, p := range theirs {
		data := numbered(uint64(p), p, p-1, 2)
		was := copied(data)
		slants := star.Slants(p, data)
		rounds := 0
		for slant, c := range slants {
			scribbled(c)
			for within, d := range slants {
				if !bytes.Equal(d, onSlant(p, was, within)) {
					t.Errorf("the prime %d, within the slant %d: %d %x", p, slant, within, d)
				}
				scribbled(d)
				rounds++
			}
			if want := upon(onSlant(p, was, slant), []byte{0xff, 0xff}); !bytes.Equal(c, want) {
				t.Errorf("the prime %d, the slant %d: %x, want %x", p, slant, c, want)
			}
		}
		if rounds != p*p || !same(data, was) {
			t.Errorf("the prime %d: %d rounds; data %x, want %x", p, rounds, data, was)
		}
	}
}

// roomy is columns whose lists and cells have something in the room behind them:
// the one that follows. unchanged tells whether all of it still stands there.
func roomy(p, many, length int) (cols []api.Column, unchanged func() bool) {
	memory := numbered(uint64(p), 1, 1, (many*(p-1)+1)*length)[0][0]
	cells := make(api.Column, many*(p-1)+1)
	for n := range cells {
		cells[n] = memory[n*length : (n+1)*length]
	}
	var all []api.Column
	for col := range many {
		all = append(all, cells[col*(p-1):(col+1)*(p-1)])
	}
	all = append(all, cells[many*(p-1):], cells, nil, cells)
	were, wasMemory := copied(all), slices.Clone(memory)
	return all[:many], func() bool { return same(all, were) && bytes.Equal(memory, wasMemory) }
}

// P8.1, P8.2, and the rules: what is handed in is not changed, spare room
// included.
func TestHandedIn(t *testing.T) {
	for _, p := range theirs {
		data, unchanged := roomy(p, p, 3)
		asMade(t, p, data)
		if !unchanged() {
			t.Errorf("what was handed in of the prime %d is changed", p)
		}
		all, unchanged := roomy(p, p+3, 3)
		checked(t, p, all, false)
		if !unchanged() {
			t.Errorf("what was checked of the prime %d is changed", p)
		}
	}
}

// scribbled writes on a cell, and on the room behind it.
func scribbled(c []byte) {
	c = c[:cap(c)]
	for i := range c {
		c[i] ^= 0xff
	}
}

// newMemory holds the answers of a call against what is done to one cell after
// another of one of them: it must be seen in that one alone.
func newMemory(t *testing.T, p int, data, want []api.Column, call func(*testing.T, int, []api.Column) []api.Column) {
	t.Helper()
	was := copied(data)
	for n := range len(want) * (p - 1) {
		l, other := call(t, p, data), call(t, p, data)
		scribbledOn := copied(want)
		scribbled(l[n/(p-1)][n%(p-1)])
		scribbled(scribbledOn[n/(p-1)][n%(p-1)][:5:5])
		_ = append(l[0], []byte{1})
		if !same(l, scribbledOn) || !same(other, want) || !same(data, was) {
			t.Errorf("what is done to the cell %d of an answer of the prime %d is seen", n, p)
		}
		clear(l[n/(p-1)])
		if !same(other, want) || !same(data, was) {
			t.Errorf("what is done to a column of an answer of the prime %d is seen", p)
		}
		clear(l)
		if !same(data, was) {
			t.Errorf("what is done to an answer of the prime %d is seen", p)
		}
	}
}

// P8.1, and the rules: answers are new memory, room behind them included.
func TestNewMemory(t *testing.T) {
	for _, p := range theirs {
		data := numbered(uint64(p), p, p-1, 5)
		newMemory(t, p, data, encoded(p, data), mustEncode)
		newMemory(t, p, data, copied(over(data)), mustOver)
		was := copied(data)
		a, _ := star.Adjuster(p, data)
		scribbled(a)
		if again, _ := star.Adjuster(p, data); !bytes.Equal(again, onSlant(p, was, p-1)) || !same(data, was) {
			t.Errorf("what is done to an adjuster of the prime %d is seen", p)
		}
	}
}

// P8.1: the columns of an answer have none of the data in the room behind.
func TestSpareRoom(t *testing.T) {
	for _, p := range theirs {
		data := numbered(uint64(p), p, p-1, 2)
		for _, l := range [][]api.Column{mustEncode(t, p, data), mustOver(t, p, data)} {
			for _, col := range l[:cap(l)][len(l):] {
				if col != nil {
					t.Errorf("the prime %d: %x behind an answer", p, col)
				}
			}
		}
	}
}

// spoil writes over all columns, their lists, and their cells.
func spoil(l []api.Column) {
	for _, col := range l {
		for _, c := range col {
			scribbled(c)
		}
		clear(col)
	}
	clear(l)
}

// P8.1, P8.2, and the rules: what is handed in is not kept: not by an answer,
// nor by slants, before they are gone over or while they are.
func TestNotKept(t *testing.T) {
	for _, p := range theirs {
		data := numbered(uint64(p), p, p-1, 4)
		was := copied(data)
		l, o := mustEncode(t, p, data), mustOver(t, p, data)
		a, _ := star.Adjuster(p, data)
		slants, later := star.Slants(p, copied(data)), star.Slants(p, data)
		for slant, c := range slants {
			if slant == 0 {
				spoil(data)
			}
			if !bytes.Equal(c, onSlant(p, was, slant)) {
				t.Errorf("the prime %d, the slant %d: %x", p, slant, c)
			}
		}
		if !same(l, encoded(p, was)) || !same(o, over(was)) || !bytes.Equal(a, onSlant(p, was, p-1)) {
			t.Errorf("what is done to the data of the prime %d later is seen", p)
		}
		for slant, c := range later {
			if !bytes.Equal(c, onSlant(p, was, slant)) {
				t.Errorf("the prime %d, the slant %d of data that are spoilt: %x", p, slant, c)
			}
		}
	}
}

// P8.2: columns that are spoilt while their slants are gone over.
func TestSpoiltWithin(t *testing.T) {
	for _, p := range theirs {
		data := numbered(uint64(p), p, p-1, 4)
		was, rounds := copied(data), 0
		for slant, c := range star.Slants(p, data) {
			if !bytes.Equal(c, onSlant(p, was, slant)) {
				t.Errorf("the prime %d, the slant %d: %x", p, slant, c)
			}
			spoil(data)
			rounds++
		}
		if rounds != p {
			t.Errorf("the prime %d: %d rounds", p, rounds)
		}
	}
}

// P8.1, P8.2: cells, and columns, may be the same piece of memory. What is
// turned over then has memory for each all the same.
func TestOneMemory(t *testing.T) {
	for _, p := range theirs {
		c := []byte{1, 0x80, 3, 4, 5}
		one := each(p, p-1, func(int, int) []byte { return c })
		asMade(t, p, one)
		newMemory(t, p, one, copied(one), mustOver)
		data := numbered(uint64(p), 1, p-1, 5)
		for len(data) < p {
			data = append(data, data[0])
		}
		asMade(t, p, data)
		newMemory(t, p, data, copied(data), mustOver)
		checked(t, p, each(p+3, p-1, func(int, int) []byte { return []byte{0} }), true)
	}
}

// P8.3: slants are the diagonals of columns that are turned over, the column of
// slants is that of diagonals then, and that of diagonals that of slants. That
// of rows stays.
func TestOver(t *testing.T) {
	for _, p := range theirs {
		for seed := range uint64(10) {
			data := numbered(seed, p, p-1, 7)
			turned := mustOver(t, p, data)
			for slant, c := range star.Slants(p, data) {
				if want := onDiagonal(p, turned, slant); !bytes.Equal(c, want) {
					t.Errorf("the prime %d, the slant %d: %x, want %x", p, slant, c, want)
				}
			}
			made, other := mustEncode(t, p, data), mustEncode(t, p, turned)
			if want := []api.Column{made[0], made[2], made[1]}; !same(other, want) {
				t.Errorf("the prime %d, turned over: %x, want %x", p, other, want)
			}
			if again := mustOver(t, p, turned); !same(again, data) {
				t.Errorf("the prime %d, turned over twice: %x, want %x", p, again, data)
			}
		}
	}
}

// P8.3: what is made of two lists of columns goes upon one another as they do.
func TestUponOneAnother(t *testing.T) {
	for _, p := range theirs {
		for seed := range uint64(10) {
			a, b := numbered(seed, p, p-1, 7), numbered(seed+100, p, p-1, 7)
			both := mustEncode(t, p, bothUpon(a, b))
			if want := bothUpon(mustEncode(t, p, a), mustEncode(t, p, b)); !same(both, want) {
				t.Errorf("the prime %d: %x, want %x", p, both, want)
			}
		}
	}
}

// back is a column that goes round by -1: with a nought in the row P - 1 each
// cell goes a row back, and what is in that row then goes upon all.
func back(c api.Column) api.Column {
	var turned api.Column
	for _, x := range c[1:] {
		turned = append(turned, upon(x, c[0]))
	}
	return append(turned, slices.Clone(c[0]))
}

// P8.3: where columns of data go one to the right, that of slants goes round by
// -1; as often as the prime, it is as it was.
func TestToTheRight(t *testing.T) {
	for _, p := range theirs {
		data := numbered(uint64(p), p, p-1, 3)
		first := mustEncode(t, p, data)
		made := first
		for range p {
			data = slices.Concat(data[p-1:], data[:p-1])
			want := []api.Column{made[0], back(made[2])}
			made = mustEncode(t, p, data)
			if !same([]api.Column{made[0], made[2]}, want) {
				t.Errorf("the prime %d: %x, want %x", p, made, want)
			}
		}
		if !same(made, first) {
			t.Errorf("the prime %d, once round: %x, want %x", p, made, first)
		}
	}
}

// P8.3: all cells of the columns of rows and of slants are the slanting
// adjuster.
func TestAllCells(t *testing.T) {
	for _, p := range theirs {
		for seed := range uint64(10) {
			data := numbered(seed, p, p-1, 7)
			made := mustEncode(t, p, data)
			all := sum([]api.Column{made[0], made[2]}, func(int, int) bool { return true })
			if a, e := star.Adjuster(p, data); !bytes.Equal(a, all) || e != api.OK {
				t.Errorf("the prime %d: all cells are %x, the adjuster %x, error %d", p, all, a, e)
			}
		}
	}
}
