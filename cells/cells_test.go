package cells_test

import (
	"bytes"
	"math"
	"math/rand/v2"
	"slices"
	"testing"

	"palisade/api"
	"palisade/cells"
)

// numbered is bytes that hang on the seed alone.
func numbered(seed uint64, many int) []byte {
	r := rand.New(rand.NewPCG(seed, 2))
	b := make([]byte, many)
	for i := range b {
		b[i] = byte(r.Uint32())
	}
	return b
}

// numberedCells is cells of one length that hang on the seed alone.
func numberedCells(seed uint64, many, n int) [][]byte {
	l := make([][]byte, many)
	for i := range l {
		l[i] = numbered(seed<<8+uint64(i), n)
	}
	return l
}

func mustXor(t *testing.T, l ...[]byte) []byte {
	t.Helper()
	c, e := cells.Xor(l...)
	if e != api.OK {
		t.Fatalf("Xor(%x): error %d", l, e)
	}
	return c
}

func mustCut(t *testing.T, b []byte, n int) [][]byte {
	t.Helper()
	l, e := cells.Cut(b, n)
	if e != api.OK {
		t.Fatalf("Cut of %d bytes by %d: error %d", len(b), n, e)
	}
	return l
}

// P2.1: a cell has 1 to MaxCell bytes.
func TestCheck(t *testing.T) {
	for n := range api.MaxCell + 20 {
		want := api.ErrArg
		if n >= 1 && n <= 64 {
			want = api.OK
		}
		if e := cells.Check(make([]byte, n, 100)); e != want {
			t.Errorf("Check of %d bytes: %d", n, e)
		}
		if e := cells.Check(bytes.Repeat([]byte{0xff}, n)); e != want {
			t.Errorf("Check of %d bytes of bits: %d", n, e)
		}
	}
	if e := cells.Check(nil); e != api.ErrArg {
		t.Errorf("Check(nil): %d", e)
	}
}

// P2.1: the nought of each length there is.
func TestZero(t *testing.T) {
	for _, n := range []int{math.MinInt, -1 << 31, -64, -1, 0, 65, 66, 256 + 1, 1 << 16, 1<<32 + 1, 1<<62 + 1, math.MaxInt} {
		if c, e := cells.Zero(n); e != api.ErrArg || c != nil {
			t.Errorf("Zero(%d) = %x, error %d", n, c, e)
		}
	}
	for n := 1; n <= 64; n++ {
		if c, e := cells.Zero(n); e != api.OK || !bytes.Equal(c, make([]byte, n)) {
			t.Errorf("Zero(%d) = %x, error %d", n, c, e)
		}
	}
	a, _ := cells.Zero(3)
	a[0] = 1
	if b, _ := cells.Zero(3); !bytes.Equal(b, make([]byte, 3)) {
		t.Errorf("a nought that was handed out before is seen: %x", b)
	}
}

// P2.1: a cell with any bit is no nought, and what is no cell neither.
func TestIsZero(t *testing.T) {
	for n := 1; n <= 64; n++ {
		c := make([]byte, n)
		if !cells.IsZero(c) {
			t.Errorf("%d bytes: no nought", n)
		}
		for i := range 8 * n {
			c[i/8] = 1 << (i % 8)
			if cells.IsZero(c) {
				t.Errorf("%d bytes with the bit %d: a nought", n, i)
			}
			c[i/8] = 0
		}
	}
	for _, c := range [][]byte{nil, {}, make([]byte, 65), make([]byte, 128), make([]byte, 1<<16)} {
		if cells.IsZero(c) {
			t.Errorf("%d bytes: a nought", len(c))
		}
	}
}

// P2.1: the document's example, and cells by hand.
func TestXor(t *testing.T) {
	rows := []struct {
		l    []string
		want string
	}{
		{[]string{"\x01\x02", "\x03\x02"}, "\x02\x00"},
		{[]string{"\x0f"}, "\x0f"},
		{[]string{"\x0f", "\xff"}, "\xf0"},
		{[]string{"\x01", "\x03", "\x05"}, "\x07"},
		{[]string{"\xff", "\xff", "\xff"}, "\xff"},
		{[]string{"\x80\x00\x01", "\x00\x00\x00"}, "\x80\x00\x01"},
	}
	for _, r := range rows {
		var l [][]byte
		for _, s := range r.l {
			l = append(l, []byte(s))
		}
		if c := mustXor(t, l...); string(c) != r.want {
			t.Errorf("Xor(%x) = %x, want %x", r.l, c, r.want)
		}
	}
}

// P2.1: each bit is that which an odd number of the cells has, for all lengths.
func TestXorEachBit(t *testing.T) {
	for n := 1; n <= 64; n++ {
		for many := 1; many <= 9; many++ {
			l := numberedCells(uint64(n*10+many), many, n)
			c := mustXor(t, l...)
			if len(c) != n {
				t.Fatalf("%d cells of %d bytes: one of %d", many, n, len(c))
			}
			for i := range 8 * n {
				count := 0
				for _, x := range l {
					count += int(x[i/8] >> (i % 8) & 1)
				}
				if int(c[i/8]>>(i%8)&1) != count%2 {
					t.Errorf("%d cells of %d bytes: the bit %d", many, n, i)
				}
			}
		}
	}
}

// P2.1: no cells, what is no cell at any place, and unlike lengths.
func TestXorRefuses(t *testing.T) {
	long := make([]byte, 65)
	rows := [][][]byte{
		nil,
		{},
		{nil},
		{{}},
		{nil, nil},
		{nil, {1}},
		{{1}, nil},
		{{1}, {1}, {}},
		{long},
		{long, long},
		{make([]byte, 64), long},
		{{1}, {1, 2}},
		{{1, 2}, {1}},
		{{1, 2}, {1, 2}, {1}},
		{{1, 2}, {1, 2}, {1, 2, 3}, {1, 2}},
		{{1, 2}, {1, 2, 3}, {1}},
	}
	for _, l := range rows {
		if c, e := cells.Xor(l...); e != api.ErrArg || c != nil {
			t.Errorf("Xor(%x) = %x, error %d", l, c, e)
		}
	}
}

// P2.1: places of bits rise, the lowest bit of the first byte ahead.
func TestBits(t *testing.T) {
	rows := []struct {
		c    []byte
		want []int
	}{
		{nil, nil},
		{[]byte{}, nil},
		{[]byte{0}, nil},
		{make([]byte, 64), nil},
		{[]byte{5}, []int{0, 2}},
		{[]byte{0x80}, []int{7}},
		{[]byte{0, 1}, []int{8}},
		{[]byte{0x81, 0, 0xc0}, []int{0, 7, 22, 23}},
		{append(make([]byte, 63), 0x80), []int{511}},
		{append(make([]byte, 64), 0x80), nil},
		{bytes.Repeat([]byte{1}, 65), nil},
		{bytes.Repeat([]byte{1}, 1000), nil},
	}
	for _, r := range rows {
		if got := slices.Collect(cells.Bits(r.c)); !slices.Equal(got, r.want) {
			t.Errorf("Bits(%x) = %v, want %v", r.c, got, r.want)
		}
	}
}

// P2.1: all places of all single bits, and of cells that are full.
func TestBitsEach(t *testing.T) {
	for n := 1; n <= 64; n++ {
		for i := range 8 * n {
			c := make([]byte, n)
			c[i/8] = 1 << (i % 8)
			if got := slices.Collect(cells.Bits(c)); !slices.Equal(got, []int{i}) {
				t.Errorf("the bit %d of %d bytes: %v", i, n, got)
			}
		}
		full := slices.Collect(cells.Bits(bytes.Repeat([]byte{0xff}, n)))
		if len(full) != 8*n || !slices.IsSorted(full) || full[0] != 0 || full[8*n-1] != 8*n-1 {
			t.Errorf("all bits of %d bytes: %v", n, full)
		}
	}
}

// P2.1: bits may be left behind each of them, and gone over again, within
// themselves, too.
func TestBitsLeft(t *testing.T) {
	c := numbered(3, 10)
	places := cells.Bits(c)
	all := slices.Collect(places)
	for stop := range len(all) {
		var got []int
		for i := range places {
			got = append(got, i)
			if len(got) == stop+1 {
				break
			}
		}
		if !slices.Equal(got, all[:stop+1]) {
			t.Errorf("left behind %d: %v, want %v", stop, got, all[:stop+1])
		}
	}
	for range places {
		if again := slices.Collect(places); !slices.Equal(again, all) {
			t.Errorf("within themselves: %v, want %v", again, all)
		}
	}
	if again := slices.Collect(places); !slices.Equal(again, all) {
		t.Errorf("again: %v, want %v", again, all)
	}
}

// P2.1, and the rules: a cell that is handed in is not kept.
func TestBitsKeepNothing(t *testing.T) {
	c := []byte{5, 0x80}
	places := cells.Bits(c)
	c[0], c[1] = 0xff, 0
	if got := slices.Collect(places); !slices.Equal(got, []int{0, 2, 15}) {
		t.Errorf("what is done to the cell later is seen: %v", got)
	}
}

// P2.2: cells by hand.
func TestCut(t *testing.T) {
	rows := []struct {
		b    []byte
		n    int
		want [][]byte
	}{
		{nil, 1, nil},
		{[]byte{}, 64, nil},
		{[]byte{1, 2, 3}, 2, [][]byte{{1, 2}, {3, 0}}},
		{[]byte{1, 2, 3}, 1, [][]byte{{1}, {2}, {3}}},
		{[]byte{1, 2, 3}, 3, [][]byte{{1, 2, 3}}},
		{[]byte{1, 2, 3}, 5, [][]byte{{1, 2, 3, 0, 0}}},
		{[]byte{0, 0, 0}, 2, [][]byte{{0, 0}, {0, 0}}},
		{[]byte{1, 2, 3, 4}, 2, [][]byte{{1, 2}, {3, 4}}},
	}
	for _, r := range rows {
		if l := mustCut(t, r.b, r.n); !slices.EqualFunc(l, r.want, bytes.Equal) {
			t.Errorf("Cut(%x, %d) = %x, want %x", r.b, r.n, l, r.want)
		}
	}
}

// P2.2: a length that no cell has.
func TestCutRefuses(t *testing.T) {
	for _, n := range []int{math.MinInt, -1 << 31, -2, -1, 0, 65, 66, 257, 1 << 32, 1<<32 + 1, math.MaxInt} {
		for _, b := range [][]byte{nil, {}, {1}, {1, 2, 3}, make([]byte, 200)} {
			if l, e := cells.Cut(b, n); e != api.ErrArg || l != nil {
				t.Errorf("Cut of %d bytes by %d: %x, error %d", len(b), n, l, e)
			}
		}
	}
}

// P2.2: cells that were not cut by Cut are glued, too.
func TestGlue(t *testing.T) {
	rows := []struct {
		l    [][]byte
		many int
		want []byte
	}{
		{nil, 0, nil},
		{[][]byte{}, 0, nil},
		{[][]byte{{7}}, 1, []byte{7}},
		{[][]byte{{0}}, 1, []byte{0}},
		{[][]byte{{1, 2}, {3, 0}}, 3, []byte{1, 2, 3}},
		{[][]byte{{1, 2}, {3, 0}}, 4, []byte{1, 2, 3, 0}},
		{[][]byte{{1, 2}, {0, 0}}, 3, []byte{1, 2, 0}},
		{[][]byte{{0, 0, 0}}, 1, []byte{0}},
		{[][]byte{{0, 0, 0}}, 2, []byte{0, 0}},
		{[][]byte{make([]byte, 64), make([]byte, 64)}, 65, make([]byte, 65)},
	}
	for _, r := range rows {
		if b, e := cells.Glue(r.l, r.many); e != api.OK || !bytes.Equal(b, r.want) {
			t.Errorf("Glue(%x, %d) = %x, error %d, want %x", r.l, r.many, b, e, r.want)
		}
	}
}

// P2.2: what is no cell, unlike lengths, numbers that may not be, bytes that
// are not nought behind, and cells too many.
func TestGlueRefuses(t *testing.T) {
	long := make([]byte, 65)
	rows := []struct {
		l    [][]byte
		many int
	}{
		{nil, 1},
		{nil, -1},
		{[][]byte{}, math.MaxInt},
		{[][]byte{nil}, 0},
		{[][]byte{{}}, 0},
		{[][]byte{nil, nil}, 0},
		{[][]byte{{1}, nil}, 1},
		{[][]byte{nil, {1}}, 1},
		{[][]byte{long}, 65},
		{[][]byte{long}, 1},
		{[][]byte{{1}, {2, 3}}, 3},
		{[][]byte{{2, 3}, {1}}, 3},
		{[][]byte{{1, 2}, {3}, {4, 5, 6}}, 6},
		{[][]byte{{1, 2}, {3, 0}}, 2},
		{[][]byte{{1, 2}, {3, 0}}, 1},
		{[][]byte{{1, 2}, {3, 0}}, 5},
		{[][]byte{{1, 2}, {3, 0}}, -1},
		{[][]byte{{0}}, -1},
		{[][]byte{{0}}, 0},
		{[][]byte{{0, 0}}, 0},
		{[][]byte{{0, 0}}, -1},
		{[][]byte{{0, 0}, {0, 0}}, 2},
		{[][]byte{{0, 0}, {0, 0}}, 1},
		{[][]byte{{0, 0}, {0, 0}, {0, 0}}, 3},
		{[][]byte{{1, 2}, {3, 4}}, 3},
		{[][]byte{{1, 0, 2}}, 1},
		{[][]byte{{1, 0, 0, 2}}, 2},
		{[][]byte{{1, 2}}, math.MinInt},
		{[][]byte{{1, 2}}, math.MaxInt},
		{[][]byte{{1, 2}}, math.MinInt + 1},
		{[][]byte{{1, 2}}, math.MinInt + 2},
		{[][]byte{{1, 2}}, 1<<32 + 2},
	}
	for _, r := range rows {
		if b, e := cells.Glue(r.l, r.many); e != api.ErrArg || b != nil {
			t.Errorf("Glue(%x, %d) = %x, error %d", r.l, r.many, b, e)
		}
	}
}

// P2.2: any bit behind the bytes refuses them.
func TestGlueBehind(t *testing.T) {
	for n := 2; n <= 64; n += 31 {
		for many := n + 1; many < 2*n; many++ {
			b := make([]byte, 2*n)
			for i := range b {
				b[i] = 1
				if _, e := cells.Glue([][]byte{b[:n], b[n:]}, many); (e == api.OK) != (i < many) {
					t.Errorf("%d of twice %d bytes, with a bit in the byte %d: error %d", many, n, i, e)
				}
				b[i] = 0
			}
		}
	}
}

// P2.2: lists of cells, and of what is none.
func TestSame(t *testing.T) {
	long := make([]byte, 65)
	unlikeLong := append(make([]byte, 64), 1)
	rows := []struct {
		a, b [][]byte
		want bool
	}{
		{nil, nil, true},
		{nil, [][]byte{}, true},
		{[][]byte{nil}, [][]byte{{}}, true},
		{[][]byte{nil}, nil, false},
		{[][]byte{nil, nil}, [][]byte{nil}, false},
		{[][]byte{{1}}, [][]byte{{1}}, true},
		{[][]byte{{1}}, [][]byte{{2}}, false},
		{[][]byte{{1}}, [][]byte{{1, 0}}, false},
		{[][]byte{{0}}, [][]byte{nil}, false},
		{[][]byte{{1, 2}}, [][]byte{{1}, {2}}, false},
		{[][]byte{{1}, {2}}, [][]byte{{1}, {2}}, true},
		{[][]byte{{1}, {2}}, [][]byte{{2}, {1}}, false},
		{[][]byte{{1}, {2}}, [][]byte{{1}}, false},
		{[][]byte{{1}, {2}}, [][]byte{{1}, {2}, {3}}, false},
		{[][]byte{{1}, {2, 3}, nil}, [][]byte{{1}, {2, 3}, {}}, true},
		{[][]byte{{1}, {2, 3}, {4}}, [][]byte{{1}, {2, 4}, {4}}, false},
		{[][]byte{long}, [][]byte{make([]byte, 65)}, true},
		{[][]byte{long}, [][]byte{unlikeLong}, false},
	}
	for _, r := range rows {
		if got := cells.Same(r.a, r.b); got != r.want {
			t.Errorf("Same(%x, %x) = %v", r.a, r.b, got)
		}
		if got := cells.Same(r.b, r.a); got != r.want {
			t.Errorf("Same(%x, %x) = %v", r.b, r.a, got)
		}
	}
}

// P2.1, P2.2, and the rules: nothing that is handed in is changed, spare room
// included.
func TestNothingChanged(t *testing.T) {
	room := numbered(21, 40)
	before := bytes.Clone(room)
	l := [][]byte{room[0:4], room[8:12], room[16:20], nil}
	listBefore := slices.Clone(l)
	cells.Check(l[0])
	cells.IsZero(l[0])
	mustXor(t, l[:3]...)
	for range cells.Bits(l[0]) {
	}
	mustCut(t, room[0:5], 4)
	cells.Same(l[:3], l[:3])
	if _, e := cells.Glue(l[:3], 12); e != api.OK {
		t.Errorf("Glue: error %d", e)
	}
	if !bytes.Equal(room, before) {
		t.Errorf("what was handed in is changed: %x, it was %x", room, before)
	}
	if !slices.EqualFunc(l, listBefore, func(a, b []byte) bool { return len(a) == len(b) && bytes.Equal(a, b) }) {
		t.Errorf("the list is changed: %x", l)
	}
}

// overwrite writes over all of an answer's memory, its spare room included.
func overwrite(b []byte) {
	b = b[:cap(b)]
	for i := range b {
		b[i] = 0xee
	}
}

// P2.1, P2.2, and the rules: answers share no memory with what was handed in.
func TestAnswersAreNew(t *testing.T) {
	c := []byte{1, 2, 3, 4}
	overwrite(mustXor(t, c))
	overwrite(mustXor(t, c, []byte{0, 0, 0, 0}))
	for _, x := range mustCut(t, c, 4) {
		overwrite(x)
	}
	b, e := cells.Glue([][]byte{c}, 4)
	overwrite(b)
	if e != api.OK || !bytes.Equal(c, []byte{1, 2, 3, 4}) {
		t.Errorf("an answer lies in what was handed in: %x, error %d", c, e)
	}
	room := []byte{1, 2, 3, 4}
	for _, x := range mustCut(t, room[:0], 2) {
		overwrite(x)
	}
	nothing, _ := cells.Glue(nil, 0)
	overwrite(nothing)
	if !bytes.Equal(room, []byte{1, 2, 3, 4}) {
		t.Errorf("an answer lies in spare room: %x", room)
	}
}

// P2.2, and the rules: the cells of one answer share no memory.
func TestCutCellsApart(t *testing.T) {
	for n := 1; n <= 64; n++ {
		b := numbered(uint64(n), 5*n-n/2)
		want := slices.Concat(b, make([]byte, n/2))
		for at := range 5 {
			l := mustCut(t, b, n)
			overwrite(l[at])
			_ = append(l[at], 1, 2, 3)
			for i, c := range l {
				if i != at && !bytes.Equal(c, want[i*n:(i+1)*n]) {
					t.Errorf("cells of %d bytes: written to that of %d, that of %d is %x", n, at, i, c)
				}
			}
		}
	}
}

// P2.3: neither the order nor a cell twice is seen in a Xor.
func TestXorOrder(t *testing.T) {
	for seed := range uint64(50) {
		r := rand.New(rand.NewPCG(seed, 5))
		n := 1 + r.IntN(64)
		l := numberedCells(seed+100, 2+r.IntN(6), n)
		want := mustXor(t, l...)
		r.Shuffle(len(l), func(i, j int) { l[i], l[j] = l[j], l[i] })
		if c := mustXor(t, l...); !bytes.Equal(c, want) {
			t.Errorf("seed %d: in another order %x, want %x", seed, c, want)
		}
		x := numbered(seed+200, n)
		twice := slices.Insert(append(slices.Clone(l), x), r.IntN(len(l)), x)
		if c := mustXor(t, twice...); !bytes.Equal(c, want) {
			t.Errorf("seed %d: with one twice %x, want %x", seed, c, want)
		}
		if !cells.IsZero(mustXor(t, x, x)) {
			t.Errorf("seed %d: %x upon itself is no nought", seed, x)
		}
		if c := mustXor(t, want, make([]byte, n)); !bytes.Equal(c, want) {
			t.Errorf("seed %d: with a nought %x, want %x", seed, c, want)
		}
	}
}

// P2.3: Glue of Cut is the bytes, for all lengths; no other number is taken.
func TestGlueOfCut(t *testing.T) {
	for n := 1; n <= 64; n++ {
		for many := range 3*n + 2 {
			b := numbered(uint64(n*1000+many), many)
			l := mustCut(t, b, n)
			if len(l) != (many+n-1)/n {
				t.Fatalf("%d bytes by %d: %d cells", many, n, len(l))
			}
			if got, e := cells.Glue(l, many); e != api.OK || !bytes.Equal(got, b) {
				t.Errorf("%d bytes by %d: glued %x, error %d", many, n, got, e)
			}
			if got, e := cells.Glue(l, len(l)*n+1); e != api.ErrArg || got != nil {
				t.Errorf("%d bytes by %d: one too many glued %x, error %d", many, n, got, e)
			}
		}
	}
}

// P2.3: long bytes, too, by the shortest and the longest cells.
func TestGlueOfCutLong(t *testing.T) {
	b := numbered(77, api.MaxText+1)
	for _, n := range []int{1, 7, 64} {
		if got, e := cells.Glue(mustCut(t, b, n), len(b)); e != api.OK || !bytes.Equal(got, b) {
			t.Errorf("by %d: %d bytes, error %d", n, len(got), e)
		}
	}
}

// P2.3: where the first of two lists fills its cells, both together are cut
// into the cells of both.
func TestCutTogether(t *testing.T) {
	for n := 1; n <= 64; n++ {
		for full := range 4 {
			for _, more := range []int{0, 1, n - 1, n, n + 1, 2 * n} {
				a, b := numbered(uint64(full), full*n), numbered(uint64(more)+50, more)
				both := slices.Concat(mustCut(t, a, n), mustCut(t, b, n))
				if l := mustCut(t, slices.Concat(a, b), n); !cells.Same(l, both) {
					t.Errorf("%d and %d bytes by %d: %x, want %x", len(a), more, n, l, both)
				}
			}
		}
	}
}

// P2.3: a bit is in Bits of a Xor just if an odd number of the cells has it.
func TestBitsOfXor(t *testing.T) {
	for n := 1; n <= 64; n += 3 {
		for many := 1; many <= 6; many++ {
			l := numberedCells(uint64(n*7+many), many, n)
			count := make([]int, 8*n)
			for _, c := range l {
				for i := range cells.Bits(c) {
					count[i]++
				}
			}
			var want []int
			for i, k := range count {
				if k%2 == 1 {
					want = append(want, i)
				}
			}
			if got := slices.Collect(cells.Bits(mustXor(t, l...))); !slices.Equal(got, want) {
				t.Errorf("%d cells of %d bytes: %v, want %v", many, n, got, want)
			}
		}
	}
}
