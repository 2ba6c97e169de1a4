package rdp_test

import (
	"bytes"
	"iter"
	"math"
	"math/rand/v2"
	"slices"
	"testing"

	"palisade/api"
	"palisade/rdp"
)

// theirs is the primes by hand, so that the tests don't ask the layers below
// for them, as what is made is reckoned here by the document's words alone.
var theirs = []int{3, 5, 7, 11, 13, 17}

// noPrimes is numbers that are no prime of a code: those near, those far off,
// and such as would be one if they were cut to fewer bits.
var noPrimes = []int{
	math.MinInt, math.MinInt + 3, -1<<32 + 3, -1 << 31, -17, -5, -3, -2, -1,
	0, 1, 2, 4, 6, 8, 9, 10, 12, 14, 15, 16, 18, 19, 23, 29, 31, 37,
	1<<8 + 3, 1<<16 + 5, 1<<31 - 1, 1<<32 + 3, 1<<32 + 17, math.MaxInt - 1, math.MaxInt,
}

// lengths is of cells: the shortest, the longest, and some between.
var lengths = []int{1, 2, 3, 7, 8, 9, 31, 63, 64}

// numbered is columns whose cells hang on the seed alone.
func numbered(seed uint64, many, rows, length int) []api.Column {
	r := rand.New(rand.NewPCG(seed, 7))
	return each(many, rows, func(int, int) []byte {
		c := make([]byte, length)
		for i := range c {
			c[i] = byte(r.Uint32())
		}
		return c
	})
}

// each is columns whose cells are told by their places.
func each(many, rows int, cell func(col, row int) []byte) []api.Column {
	l := make([]api.Column, many)
	for col := range l {
		for row := range rows {
			l[col] = append(l[col], cell(col, row))
		}
	}
	return l
}

func noughts(many, rows, length int) []api.Column {
	return each(many, rows, func(int, int) []byte { return make([]byte, length) })
}

// copied is columns with nothing in common with those they are a copy of.
func copied(l []api.Column) []api.Column {
	other := make([]api.Column, len(l))
	for i, col := range l {
		for _, c := range col {
			other[i] = append(other[i], slices.Clone(c))
		}
	}
	return other
}

func same(a, b []api.Column) bool {
	return slices.EqualFunc(a, b, func(x, y api.Column) bool {
		return slices.EqualFunc(x, y, bytes.Equal)
	})
}

// sum is those cells that are such, put upon one another.
func sum(l []api.Column, such func(col, row int) bool) []byte {
	c := make([]byte, len(l[0][0]))
	for col := range l {
		for row := range l[col] {
			for i, x := range l[col][row] {
				if such(col, row) {
					c[i] ^= x
				}
			}
		}
	}
	return c
}

// onDiagonal is the cells of data and of rows of a diagonal, put upon one
// another.
func onDiagonal(p int, l []api.Column, diagonal int) []byte {
	return sum(l[:p], func(col, row int) bool { return (col+row)%p == diagonal })
}

// rows, diagonals, encoded and wrong are what the document's words tell.
func rows(p int, data []api.Column) []api.Column {
	return each(1, p-1, func(_, made int) []byte {
		return sum(data[:p-1], func(_, row int) bool { return row == made })
	})
}

func diagonals(p int, dataAndRows []api.Column) []api.Column {
	return each(1, p-1, func(_, made int) []byte { return onDiagonal(p, dataAndRows, made) })
}

func encoded(p int, data []api.Column) []api.Column {
	r := rows(p, data)
	return slices.Concat(r, diagonals(p, slices.Concat(data, r)))
}

// whole is data with what is made of them.
func whole(p int, data []api.Column) []api.Column { return slices.Concat(data, encoded(p, data)) }

func wrong(p int, all []api.Column) []api.At {
	var l []api.At
	for i, want := range slices.Concat(rows(p, all), diagonals(p, all)) {
		for row, c := range want {
			if !bytes.Equal(c, all[p-1+i][row]) {
				l = append(l, api.At{Col: p - 1 + i, Row: row})
			}
		}
	}
	return l
}

// upon is two cells put upon one another.
func upon(a, b []byte) []byte {
	c := make([]byte, len(a))
	for i := range a {
		c[i] = a[i] ^ b[i]
	}
	return c
}

func bothUpon(a, b []api.Column) []api.Column {
	return each(len(a), len(a[0]), func(col, row int) []byte { return upon(a[col][row], b[col][row]) })
}

func mustEncode(t *testing.T, p int, data []api.Column) []api.Column {
	t.Helper()
	l, e := rdp.Encode(p, data)
	if e != api.OK {
		t.Fatalf("Encode of the prime %d: error %d", p, e)
	}
	return l
}

// asMade holds Encode against the document's words, and the other calls with
// what is made.
func asMade(t *testing.T, p int, data []api.Column) {
	t.Helper()
	want := encoded(p, data)
	if l, e := rdp.Encode(p, data); !same(l, want) || e != api.OK {
		t.Errorf("Encode(%d, %x) = %x, error %d, want %x", p, data, l, e, want)
	}
	all := slices.Concat(data, want)
	leftOut(t, p, all)
	checked(t, p, all)
	if is, e := rdp.Check(p, all); !is || e != api.OK {
		t.Errorf("Check(%d, %x) = %v, error %d", p, all, is, e)
	}
}

// leftOut holds Left against the document's words.
func leftOut(t *testing.T, p int, all []api.Column) {
	t.Helper()
	want := onDiagonal(p, all, p-1)
	if c, e := rdp.Left(p, all); !bytes.Equal(c, want) || e != api.OK {
		t.Errorf("Left(%d, %x) = %x, error %d, want %x", p, all, c, e, want)
	}
}

// checked holds Check and Wrong against the document's words.
func checked(t *testing.T, p int, all []api.Column) {
	t.Helper()
	told(t, p, all, wrong(p, all)...)
}

// told holds Check and Wrong against places.
func told(t *testing.T, p int, all []api.Column, want ...api.At) {
	t.Helper()
	if l := slices.Collect(rdp.Wrong(p, all)); !slices.Equal(l, want) {
		t.Errorf("Wrong(%d, %x): %v, want %v", p, all, l, want)
	}
	if is, e := rdp.Check(p, all); is != (len(want) == 0) || e != api.OK {
		t.Errorf("Check(%d, %x) = %v, error %d, where %v are wrong", p, all, is, e, want)
	}
}

// refused holds all calls against columns that may be none of them.
func refused(t *testing.T, p int, l []api.Column) {
	t.Helper()
	noData(t, p, l)
	notAll(t, p, l)
}

// noData holds the call that asks for columns of data against others.
func noData(t *testing.T, p int, l []api.Column) {
	t.Helper()
	if m, e := rdp.Encode(p, l); m != nil || e != api.ErrArg {
		t.Errorf("Encode(%d, %x) = %x, error %d", p, l, m, e)
	}
}

// notAll holds the calls that ask for all columns against others.
func notAll(t *testing.T, p int, l []api.Column) {
	t.Helper()
	if c, e := rdp.Left(p, l); c != nil || e != api.ErrArg {
		t.Errorf("Left(%d, %x) = %x, error %d", p, l, c, e)
	}
	if is, e := rdp.Check(p, l); is || e != api.ErrArg {
		t.Errorf("Check(%d, %x) = %v, error %d", p, l, is, e)
	}
	places := rdp.Wrong(p, l)
	if places == nil {
		t.Fatalf("Wrong(%d, %x) is not there", p, l)
	}
	for at := range places {
		t.Errorf("Wrong(%d, %x): %v", p, l, at)
	}
}

// P7.1, P7.2: the document's example, and others by hand.
func TestRows(t *testing.T) {
	rows := []struct {
		data, made []api.Column
		left       byte
	}{
		{[]api.Column{{{1}, {2}}, {{4}, {8}}}, []api.Column{{{5}, {10}}, {{11}, {6}}}, 13},
		{[]api.Column{{{1}, {0}}, {{0}, {0}}}, []api.Column{{{1}, {0}}, {{1}, {0}}}, 1},
		{[]api.Column{{{0}, {1}}, {{0}, {0}}}, []api.Column{{{0}, {1}}, {{1}, {1}}}, 0},
		{[]api.Column{{{0}, {0}}, {{1}, {0}}}, []api.Column{{{1}, {0}}, {{0}, {1}}}, 1},
		{[]api.Column{{{0}, {0}}, {{0}, {1}}}, []api.Column{{{0}, {1}}, {{1}, {0}}}, 1},
	}
	for _, r := range rows {
		if l := mustEncode(t, 3, r.data); !same(l, r.made) {
			t.Errorf("Encode(3, %x) = %x", r.data, l)
		}
		all := slices.Concat(r.data, r.made)
		if c, e := rdp.Left(3, all); !bytes.Equal(c, []byte{r.left}) || e != api.OK {
			t.Errorf("Left(3, %x) = %x, error %d", all, c, e)
		}
		told(t, 3, all)
		notAll(t, 3, r.data)
		noData(t, 3, all)
		refused(t, 4, all)
	}
}

// P7.2: the document's example, and others by hand: that of diagonals is held
// against the column of rows that is there.
func TestWrongRows(t *testing.T) {
	rows := []struct {
		all  []api.Column
		want []api.At
	}{
		{[]api.Column{{{1}, {2}}, {{4}, {8}}, {{5}, {10}}, {{11}, {1}}}, []api.At{{Col: 3, Row: 1}}},
		{[]api.Column{{{1}, {2}}, {{4}, {8}}, {{5}, {11}}, {{11}, {6}}}, []api.At{{Col: 2, Row: 1}, {Col: 3, Row: 0}}},
		{[]api.Column{{{1}, {2}}, {{4}, {8}}, {{5}, {11}}, {{10}, {6}}}, []api.At{{Col: 2, Row: 1}}},
		{[]api.Column{{{1}, {2}}, {{4}, {8}}, {{4}, {10}}, {{11}, {6}}}, []api.At{{Col: 2, Row: 0}}},
		{[]api.Column{{{1}, {2}}, {{4}, {9}}, {{5}, {10}}, {{11}, {6}}}, []api.At{{Col: 2, Row: 1}}},
		{[]api.Column{{{0}, {2}}, {{4}, {8}}, {{5}, {10}}, {{11}, {6}}}, []api.At{{Col: 2, Row: 0}, {Col: 3, Row: 0}}},
		{[]api.Column{{{0}, {0}}, {{0}, {0}}, {{1}, {1}}, {{1}, {1}}},
			[]api.At{{Col: 2, Row: 0}, {Col: 2, Row: 1}, {Col: 3, Row: 1}}},
		{[]api.Column{{{0}, {0}}, {{0}, {0}}, {{1}, {1}}, {{2}, {1}}},
			[]api.At{{Col: 2, Row: 0}, {Col: 2, Row: 1}, {Col: 3, Row: 0}, {Col: 3, Row: 1}}},
	}
	for _, r := range rows {
		told(t, 3, r.all, r.want...)
	}
}

// P7.1, P7.2: no columns at all, and columns of another number than must be.
func TestHowMany(t *testing.T) {
	for _, p := range theirs {
		refused(t, p, nil)
		refused(t, p, []api.Column{})
		for many := 1; many < 2*p+4; many++ {
			l := noughts(many, p-1, 2)
			if many != p-1 {
				noData(t, p, l)
			}
			if many != p+1 {
				notAll(t, p, l)
			}
		}
	}
}

// P7.1, P7.2: what is none of the primes, with columns that would be right if
// it were one, and with columns of another one.
func TestNoPrime(t *testing.T) {
	for _, p := range noPrimes {
		refused(t, p, nil)
		for _, many := range []int{1, 2, 3, 4, 16, 18} {
			refused(t, p, numbered(1, many, 2, 1))
			refused(t, p, noughts(many, 0, 1))
		}
		if 0 < p && p < 40 {
			refused(t, p, noughts(p-1, p-1, 1))
			refused(t, p, noughts(p+1, p-1, 1))
		}
	}
	for _, p := range theirs {
		for _, other := range theirs {
			if p != other {
				refused(t, p, noughts(p-1, other-1, 1))
				refused(t, p, noughts(p+1, other-1, 1))
			}
		}
	}
}

// P7.1, P7.2: a column with a cell too few or too many, wherever it stands.
func TestHowManyCells(t *testing.T) {
	for _, p := range theirs {
		for _, many := range []int{p - 1, p + 1} {
			for at := range many {
				for _, rows := range []int{0, 1, p - 2, p, p + 1, 2 * (p - 1)} {
					if rows != p-1 {
						l := noughts(many, p-1, 1)
						l[at] = noughts(1, rows, 1)[0]
						refused(t, p, l)
					}
				}
			}
			refused(t, p, noughts(many, p, 1))
			refused(t, p, noughts(many, p-2, 1))
			refused(t, p, make([]api.Column, many))
		}
	}
}

// P7.1, P7.2: a cell that is none, or of another length, at each place; and
// cells that are all none, of one length.
func TestNoCells(t *testing.T) {
	for _, p := range theirs {
		for _, many := range []int{p - 1, p + 1} {
			for _, length := range []int{0, 65, 66, 128, 1000} {
				refused(t, p, noughts(many, p-1, length))
			}
			for n := range many * (p - 1) {
				for _, length := range []int{1, 2, 64} {
					for _, other := range []int{0, length - 1, length + 1, 65} {
						l := noughts(many, p-1, length)
						l[n/(p-1)][n%(p-1)] = make([]byte, other)
						refused(t, p, l)
					}
				}
			}
		}
	}
}

// P7.1, P7.2: any data, of each prime, of cells of each length.
func TestAny(t *testing.T) {
	for _, p := range theirs {
		for length := 1; length <= 64; length++ {
			asMade(t, p, numbered(uint64(p*100+length), p-1, p-1, length))
		}
		asMade(t, p, noughts(p-1, p-1, 1))
		asMade(t, p, each(p-1, p-1, func(int, int) []byte { return []byte{0xff, 0xff} }))
	}
}

// P7.1: data of one bit alone, at each place.
func TestOneBit(t *testing.T) {
	for _, p := range theirs {
		data := noughts(p-1, p-1, 2)
		for n := range (p - 1) * (p - 1) {
			c := data[n/(p-1)][n%(p-1)]
			c[n%2] = 1 << (n % 8)
			asMade(t, p, data)
			c[n%2] = 0
		}
	}
}

// P7.1, P7.2: columns that nobody made: Left is of what is there, that of
// diagonals beside; so is what is wrong.
func TestAnyColumns(t *testing.T) {
	for _, p := range theirs {
		for _, length := range lengths {
			all := numbered(uint64(p*100+length), p+1, p-1, length)
			leftOut(t, p, all)
			checked(t, p, all)
		}
		for n := range (p + 1) * (p - 1) {
			all := noughts(p+1, p-1, 1)
			all[n/(p-1)][n%(p-1)][0] = 0x80
			leftOut(t, p, all)
			checked(t, p, all)
		}
	}
}

// P7.2: any of the cells of the last two columns are wrong, where the data are
// as they were: just these are told, that of diagonals by the rows that are
// there.
func TestAnyWrong(t *testing.T) {
	for _, p := range theirs {
		r := rand.New(rand.NewPCG(uint64(p), 77))
		for range 12 {
			data := numbered(r.Uint64(), p-1, p-1, 2)
			spoilt := slices.Concat(data, rows(p, data))
			var want []api.At
			for col := range 2 {
				if col == 1 {
					spoilt = slices.Concat(spoilt, diagonals(p, spoilt))
				}
				for row := range p - 1 {
					if r.IntN(2) == 0 {
						spoilt[p-1+col][row][r.IntN(2)] ^= byte(1 + r.IntN(255))
						want = append(want, api.At{Col: p - 1 + col, Row: row})
					}
				}
			}
			told(t, p, spoilt, want...)
		}
	}
}

// P7.2: columns of rows and of diagonals that stand the other way round, that
// are noughts, or that EVENODD's words tell.
func TestOtherColumns(t *testing.T) {
	for _, p := range theirs {
		data := numbered(uint64(p), p-1, p-1, 4)
		made := encoded(p, data)
		checked(t, p, slices.Concat(data, made[1:], made[:1]))
		checked(t, p, slices.Concat(data, noughts(2, p-1, 4)))
		checked(t, p, slices.Concat(data, made[:1], noughts(1, p-1, 4)))
		without := diagonals(p, slices.Concat(data, noughts(1, p-1, 4)))
		checked(t, p, slices.Concat(data, made[:1], without))
		a := onDiagonal(p, slices.Concat(data, made), p-1)
		with := each(1, p-1, func(_, row int) []byte { return upon(made[1][row], a) })
		checked(t, p, slices.Concat(data, made[:1], with))
		told(t, p, noughts(p+1, p-1, 4))
	}
}

// P7.2: what is wrong may be left behind each of its places: nothing is told
// behind that.
func TestWrongLeft(t *testing.T) {
	for _, p := range theirs {
		all := numbered(uint64(p), p+1, p-1, 2)
		places, want := rdp.Wrong(p, all), wrong(p, all)
		for stop := range want {
			var got []api.At
			places(func(at api.At) bool {
				got = append(got, at)
				return len(got) <= stop
			})
			if !slices.Equal(got, want[:stop+1]) {
				t.Errorf("the prime %d, left behind %d: %v, want %v", p, stop, got, want[:stop+1])
			}
		}
	}
}

// P7.2: what is wrong may be gone over again, within itself, too.
func TestWrongAgain(t *testing.T) {
	for _, p := range theirs {
		all := numbered(uint64(p), p+1, p-1, 2)
		places, want := rdp.Wrong(p, all), wrong(p, all)
		for range places {
			break
		}
		rounds := 0
		for at := range places {
			if at != want[rounds] {
				t.Errorf("the prime %d: %v, want %v", p, at, want[rounds])
			}
			rounds++
			if got := slices.Collect(places); !slices.Equal(got, want) {
				t.Errorf("the prime %d, within itself: %v, want %v", p, got, want)
			}
		}
		if got := slices.Collect(places); rounds != len(want) || !slices.Equal(got, want) {
			t.Errorf("the prime %d, again: %v, want %v; %d rounds", p, got, want, rounds)
		}
	}
}

// roomy is columns whose lists and cells have something in the room behind them:
// the one that follows. unchanged tells whether all of it still stands there.
func roomy(p, many, length int) (cols []api.Column, unchanged func() bool) {
	memory := numbered(uint64(p), 1, 1, (many*(p-1)+1)*length)[0][0]
	cells := make(api.Column, many*(p-1)+1)
	for n := range cells {
		cells[n] = memory[n*length : (n+1)*length]
	}
	var all []api.Column
	for col := range many {
		all = append(all, cells[col*(p-1):(col+1)*(p-1)])
	}
	all = append(all, cells[many*(p-1):], cells, nil)
	were, wasMemory := copied(all), slices.Clone(memory)
	return all[:many], func() bool { return same(all, were) && bytes.Equal(memory, wasMemory) }
}

// P7.1, P7.2, and the rules: what is handed in is not changed, spare room
// included.
func TestHandedIn(t *testing.T) {
	for _, p := range theirs {
		data, unchanged := roomy(p, p-1, 3)
		if l := mustEncode(t, p, data); !same(l, encoded(p, data)) {
			t.Errorf("Encode(%d, %x) = %x", p, data, l)
		}
		if !unchanged() {
			t.Errorf("what was handed in of the prime %d is changed", p)
		}
		all, unchanged := roomy(p, p+1, 3)
		leftOut(t, p, all)
		checked(t, p, all)
		if !unchanged() {
			t.Errorf("what was checked of the prime %d is changed", p)
		}
	}
}

// scribbled writes on a cell, and on the room behind it.
func scribbled(c []byte) {
	c = c[:cap(c)]
	for i := range c {
		c[i] ^= 0xff
	}
}

// P7.1, and the rules: answers are new memory, room behind them included. What
// is done to one cell of an answer is seen in that one alone.
func TestNewMemory(t *testing.T) {
	for _, p := range theirs {
		data := numbered(uint64(p), p-1, p-1, 5)
		was, want := copied(data), encoded(p, data)
		for n := range 2 * (p - 1) {
			l, other := mustEncode(t, p, data), mustEncode(t, p, data)
			scribbledOn := copied(want)
			scribbled(l[n/(p-1)][n%(p-1)])
			scribbled(scribbledOn[n/(p-1)][n%(p-1)][:5:5])
			_ = append(l[0], []byte{1})
			if !same(l, scribbledOn) || !same(other, want) || !same(data, was) {
				t.Errorf("what is done to the cell %d of an answer of the prime %d is seen", n, p)
			}
		}
		all := slices.Concat(data, want)
		left, _ := rdp.Left(p, all)
		scribbled(left)
		leftOut(t, p, all)
		if !same(all, whole(p, was)) {
			t.Errorf("what is done to what is left out of the prime %d is seen", p)
		}
	}
}

// P7.1: the columns of an answer are just the two, with none of the data in the
// room behind.
func TestSpareRoom(t *testing.T) {
	for _, p := range theirs {
		data := numbered(uint64(p), p-1, p-1, 2)
		l := mustEncode(t, p, data)
		for _, col := range l[:cap(l)][2:] {
			if col != nil {
				t.Errorf("the prime %d: %x behind an answer", p, col)
			}
		}
	}
}

// spoil writes over all columns, their lists, and their cells.
func spoil(l []api.Column) {
	for _, col := range l {
		for _, c := range col {
			scribbled(c)
		}
		clear(col)
	}
	clear(l)
}

// P7.1, P7.2, and the rules: what is handed in is not kept: not by an answer,
// nor by what is wrong, before it is gone over or while it is.
func TestNotKept(t *testing.T) {
	for _, p := range theirs {
		data := numbered(uint64(p), p-1, p-1, 4)
		want := encoded(p, data)
		all := numbered(uint64(p), p+1, p-1, 4)
		wantLeft, wantWrong := onDiagonal(p, all, p-1), wrong(p, all)
		l := mustEncode(t, p, data)
		left, _ := rdp.Left(p, all)
		places, later := rdp.Wrong(p, copied(all)), rdp.Wrong(p, all)
		var got []api.At
		for at := range later {
			got = append(got, at)
			spoil(all)
		}
		spoil(data)
		if !same(l, want) || !bytes.Equal(left, wantLeft) {
			t.Errorf("what is done to the columns of the prime %d later is seen", p)
		}
		for _, x := range []iter.Seq[api.At]{slices.Values(got), later, places} {
			if g := slices.Collect(x); !slices.Equal(g, wantWrong) {
				t.Errorf("the prime %d: wrong is %v, want %v", p, g, wantWrong)
			}
		}
	}
}

// P7.1, P7.2: cells, and columns, may be the same piece of memory.
func TestOneMemory(t *testing.T) {
	for _, p := range theirs {
		c := []byte{1, 0x80}
		asMade(t, p, each(p-1, p-1, func(int, int) []byte { return c }))
		all := each(p+1, p-1, func(int, int) []byte { return c })
		leftOut(t, p, all)
		checked(t, p, all)
		data := numbered(uint64(p), 1, p-1, 2)
		for len(data) < p-1 {
			data = append(data, data[0])
		}
		asMade(t, p, data)
	}
}

// P7.3: where Check is true, all cells of diagonals are what is left out.
func TestAllDiagonals(t *testing.T) {
	for _, p := range theirs {
		for seed := range uint64(10) {
			data := numbered(seed, p-1, p-1, 7)
			all := slices.Concat(data, mustEncode(t, p, data))
			if is, e := rdp.Check(p, all); !is || e != api.OK {
				t.Errorf("the prime %d: Check is %v, error %d", p, is, e)
			}
			want := sum(all[p:], func(int, int) bool { return true })
			if c, e := rdp.Left(p, all); !bytes.Equal(c, want) || e != api.OK {
				t.Errorf("the prime %d: diagonals are %x, left out %x, error %d", p, want, c, e)
			}
		}
	}
}

// P7.3: what is made of two lists of columns goes upon one another as they do.
func TestUponOneAnother(t *testing.T) {
	for _, p := range theirs {
		for seed := range uint64(10) {
			a, b := numbered(seed, p-1, p-1, 7), numbered(seed+100, p-1, p-1, 7)
			both := mustEncode(t, p, bothUpon(a, b))
			if want := bothUpon(mustEncode(t, p, a), mustEncode(t, p, b)); !same(both, want) {
				t.Errorf("the prime %d: %x, want %x", p, both, want)
			}
		}
	}
}

// toldOf is what one cell of whole columns that is another one makes wrong: the
// cell of its row, unless it is one of diagonals; and that of its diagonal, but
// of the last one.
func toldOf(p int, at api.At) []api.At {
	if at.Col == p {
		return []api.At{at}
	}
	l := []api.At{{Col: p - 1, Row: at.Row}}
	if diagonal := (at.Col + at.Row) % p; diagonal != p-1 {
		l = append(l, api.At{Col: p, Row: diagonal})
	}
	return l
}

// P7.3: one cell alone is another one, at each place; each of its bits may be.
func TestOneCell(t *testing.T) {
	for _, p := range theirs {
		all := whole(p, numbered(uint64(p), p-1, p-1, 2))
		for n := range (p + 1) * (p - 1) {
			at := api.At{Col: n / (p - 1), Row: n % (p - 1)}
			c := all[at.Col][at.Row]
			for _, bit := range []int{n % 16, (n + 7) % 16} {
				c[bit/8] ^= 1 << (bit % 8)
				told(t, p, all, toldOf(p, at)...)
				c[bit/8] ^= 1 << (bit % 8)
			}
		}
		told(t, p, all)
	}
}
