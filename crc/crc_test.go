package crc_test

import (
	"bytes"
	"encoding/binary"
	"math/rand/v2"
	"testing"

	"palisade/api"
	"palisade/crc"
)

// wordByWord follows the document's words bit by bit, so that the tests hold
// the half bytes' shares against something made another way.
func wordByWord(b []byte) uint32 {
	word := uint32(1<<32 - 1)
	for _, x := range b {
		for i := range 8 {
			differ := uint32(x)>>i&1 != word&1
			word /= 2
			if differ {
				word ^= 0x82f63b78
			}
		}
	}
	return 1<<32 - 1 - word
}

// numbered is bytes that hang on the seed alone.
func numbered(seed uint64, many int) []byte {
	r := rand.New(rand.NewPCG(seed, 1))
	b := make([]byte, many)
	for i := range b {
		b[i] = byte(r.Uint32())
	}
	return b
}

// upon puts lists of one length upon one another.
func upon(l ...[]byte) []byte {
	b := make([]byte, len(l[0]))
	for _, x := range l {
		for i := range b {
			b[i] ^= x[i]
		}
	}
	return b
}

func mustSeal(t *testing.T, b []byte) []byte {
	t.Helper()
	s, e := crc.Seal(b)
	if e != api.OK {
		t.Fatalf("Seal of %d bytes: error %d", len(b), e)
	}
	return s
}

// P1.1: sums that are published.
func TestSumPublished(t *testing.T) {
	rising, falling := make([]byte, 32), make([]byte, 32)
	for i := range 32 {
		rising[i], falling[i] = byte(i), byte(31-i)
	}
	rows := []struct {
		b    []byte
		want uint32
	}{
		{nil, 0},
		{[]byte{}, 0},
		{[]byte("123456789"), 0xe3069283},
		{make([]byte, 32), 0x8a9136aa},
		{bytes.Repeat([]byte{0xff}, 32), 0x62a8ab43},
		{rising, 0x46dd794e},
		{falling, 0x113fdb5c},
	}
	for _, r := range rows {
		if n := crc.Sum(r.b); n != r.want {
			t.Errorf("Sum(%x) = %x, want %x", r.b, n, r.want)
		}
	}
}

// P1.1: the sum as the document's words make it, of each byte and of many lengths.
func TestSumAsWords(t *testing.T) {
	for i := range 256 {
		b := []byte{byte(i)}
		if n, want := crc.Sum(b), wordByWord(b); n != want {
			t.Errorf("Sum(%x) = %x, want %x", b, n, want)
		}
	}
	for many := range 300 {
		b := numbered(uint64(many), many)
		if n, want := crc.Sum(b), wordByWord(b); n != want {
			t.Errorf("Sum of %d bytes = %x, want %x", many, n, want)
		}
	}
	b := numbered(7, 1<<20+1)
	if n, want := crc.Sum(b), wordByWord(b); n != want {
		t.Errorf("Sum of %d bytes = %x, want %x", len(b), n, want)
	}
}

// P1.1: of no lists, of empty ones, and of empty ones between others.
func TestSumLists(t *testing.T) {
	if n := crc.Sum(); n != 0 {
		t.Errorf("Sum() = %x", n)
	}
	if n := crc.Sum(nil, []byte{}, nil); n != 0 {
		t.Errorf("Sum of empty lists = %x", n)
	}
	if n := crc.Sum(nil, []byte("1234"), nil, []byte{}, []byte("5678"), []byte("9"), nil); n != 0xe3069283 {
		t.Errorf("Sum with empty lists between = %x", n)
	}
	if crc.Sum([]byte("ab"), []byte("c")) == crc.Sum([]byte("c"), []byte("ab")) {
		t.Error("Sum does not hang on the order of the lists")
	}
	if crc.Sum(make([]byte, 3)) == crc.Sum(make([]byte, 4)) {
		t.Error("Sum does not hang on how many noughts there are")
	}
}

// P1.1: More goes on where a sum ended, from nothing and with nothing, too.
func TestMore(t *testing.T) {
	if n := crc.More(0, []byte("123456789")); n != 0xe3069283 {
		t.Errorf("More(0, ..) = %x", n)
	}
	if n := crc.More(crc.Sum([]byte("1234")), []byte("56789")); n != 0xe3069283 {
		t.Errorf("More = %x", n)
	}
	for _, sum := range []uint32{0, 1, 0xe3069283, 1<<32 - 1} {
		if a, b := crc.More(sum, nil), crc.More(sum, []byte{}); a != sum || b != sum {
			t.Errorf("More(%x, nothing) = %x, %x", sum, a, b)
		}
	}
	a, b, c := numbered(1, 50), numbered(2, 77), numbered(3, 3)
	if n, want := crc.More(crc.More(crc.Sum(a), b), c), crc.Sum(a, b, c); n != want {
		t.Errorf("More of More = %x, want %x", n, want)
	}
}

// P1.2: what sealed bytes look like.
func TestSeal(t *testing.T) {
	rows := []struct{ b, want string }{
		{"", "\x00\x00\x00\x00"},
		{"123456789", "123456789\x83\x92\x06\xe3"},
		{"\x00", "\x00\x51\x53\x7d\x52"},
	}
	for _, r := range rows {
		if s := mustSeal(t, []byte(r.b)); string(s) != r.want {
			t.Errorf("Seal(%x) = %x, want %x", r.b, s, r.want)
		}
	}
	if s := mustSeal(t, nil); string(s) != "\x00\x00\x00\x00" {
		t.Errorf("Seal(nil) = %x", s)
	}
}

// P1.2: MaxText bytes are sealed, one more are not; Open has no such bound.
func TestSealBound(t *testing.T) {
	for _, many := range []int{api.MaxText - 1, api.MaxText} {
		b := numbered(9, many)
		o, e := crc.Open(mustSeal(t, b))
		if e != api.OK || !bytes.Equal(o, b) {
			t.Errorf("%d bytes: error %d, %d bytes", many, e, len(o))
		}
	}
	long := numbered(9, api.MaxText+1)
	if s, e := crc.Seal(long); e != api.ErrLong || len(s) != 0 {
		t.Errorf("Seal of %d bytes: error %d, %d bytes", len(long), e, len(s))
	}
	sealed := binary.LittleEndian.AppendUint32(bytes.Clone(long), wordByWord(long))
	if o, e := crc.Open(sealed); e != api.OK || !bytes.Equal(o, long) {
		t.Errorf("Open of %d bytes: error %d, %d bytes", len(sealed), e, len(o))
	}
}

// P1.2: bytes that are not sealed.
func TestOpenRefuses(t *testing.T) {
	hi := []byte("hi")
	turned := binary.BigEndian.AppendUint32(bytes.Clone(hi), crc.Sum(hi))
	rows := [][]byte{
		nil,
		{},
		{0},
		{0, 0},
		{0, 0, 0},
		{1, 0, 0, 0},
		{0, 0, 0, 1},
		make([]byte, 5),
		make([]byte, 20),
		hi,
		turned,
		mustSeal(t, hi)[:5],
		mustSeal(t, hi)[1:],
		append(mustSeal(t, hi), 0),
		append([]byte{0}, mustSeal(t, hi)...),
	}
	for _, b := range rows {
		if o, e := crc.Open(b); e != api.ErrSum || len(o) != 0 {
			t.Errorf("Open(%x) = %x, error %d", b, o, e)
		}
	}
}

// P1.2, and the rules: nothing that is handed in is changed, spare room
// included, and answers are memory of their own.
func TestMemory(t *testing.T) {
	room := []byte("hi and what lies behind")
	b := room[:2]
	s := mustSeal(t, b)
	crc.Sum(b, b)
	crc.More(5, b)
	if string(room) != "hi and what lies behind" {
		t.Errorf("spare room is changed: %q", room)
	}
	sealed := bytes.Clone(s)
	o, e := crc.Open(s)
	if e != api.OK || !bytes.Equal(s, sealed) {
		t.Fatalf("Open: error %d, left %x of %x", e, s, sealed)
	}
	for i := range o {
		o[i] = 'X'
	}
	_ = append(o, "over what lies behind"...)
	if !bytes.Equal(s, sealed) {
		t.Errorf("what Open answers lies in what was handed in: %x", s)
	}
	clear(s[:cap(s)])
	if string(room) != "hi and what lies behind" || string(o) != "XX" {
		t.Errorf("what Seal answers lies in other memory: %q, %q", room, o)
	}
	nothing := mustSeal(t, nil)
	o, _ = crc.Open(nothing)
	_ = append(o, "over the seal"...)
	if string(nothing) != "\x00\x00\x00\x00" {
		t.Errorf("what Open answers of no bytes lies in what was handed in: %x", nothing)
	}
}

// P1.3: Open of Seal is the bytes.
func TestOpenOfSeal(t *testing.T) {
	for many := range 200 {
		b := numbered(uint64(many)+500, many)
		s := mustSeal(t, b)
		if len(s) != many+4 || !bytes.Equal(s[:many], b) {
			t.Errorf("Seal of %d bytes has %d", many, len(s))
		}
		if o, e := crc.Open(s); e != api.OK || !bytes.Equal(o, b) {
			t.Errorf("Open of Seal of %x = %x, error %d", b, o, e)
		}
	}
	twice, e := crc.Open(mustSeal(t, mustSeal(t, []byte("hi"))))
	if o, f := crc.Open(twice); e != api.OK || f != api.OK || string(o) != "hi" {
		t.Errorf("sealed twice: %q, errors %d, %d", o, e, f)
	}
}

// P1.3: a sum does not hang on where bytes are parted.
func TestParted(t *testing.T) {
	b := numbered(11, 60)
	want := crc.Sum(b)
	for i := range len(b) + 1 {
		if n := crc.More(crc.Sum(b[:i]), b[i:]); n != want {
			t.Errorf("More, parted at %d: %x, want %x", i, n, want)
		}
		for j := i; j <= len(b); j++ {
			if n := crc.Sum(b[:i], b[i:j], b[j:]); n != want {
				t.Errorf("Sum, parted at %d and %d: %x, want %x", i, j, n, want)
			}
		}
	}
}

// shortFaults tells what is put upon at most four bytes that follow one
// another: each bit, each single byte, and some of all lengths.
func shortFaults() [][]byte {
	var l [][]byte
	for i := 1; i < 256; i++ {
		l = append(l, []byte{byte(i)})
	}
	for i := range 32 {
		l = append(l, binary.LittleEndian.AppendUint32(nil, 1<<i))
	}
	r := rand.New(rand.NewPCG(3, 4))
	for range 300 {
		x := r.Uint32() | 1
		for many := 2; many <= 4; many++ {
			l = append(l, binary.LittleEndian.AppendUint32(nil, x)[:many])
		}
	}
	for _, x := range []uint32{0x82f63b78, 0x1edc6f41, 0xffffffff} {
		l = append(l, binary.LittleEndian.AppendUint32(nil, x), binary.BigEndian.AppendUint32(nil, x))
	}
	return l
}

// P1.3: short faults give another sum, and break the seal, wherever they lie,
// across the seam of bytes and seal, and within the seal, too.
func TestShortFaults(t *testing.T) {
	b := numbered(13, 24)
	sum, sealed := crc.Sum(b), mustSeal(t, b)
	for _, fault := range shortFaults() {
		for at := 0; at+len(fault) <= len(sealed); at++ {
			x := bytes.Clone(sealed)
			for i, f := range fault {
				x[at+i] ^= f
			}
			if at+len(fault) <= len(b) && crc.Sum(x[:len(b)]) == sum {
				t.Errorf("%x upon the byte %d: the sum is the same", fault, at)
			}
			if o, e := crc.Open(x); e != api.ErrSum || len(o) != 0 {
				t.Errorf("%x upon the byte %d: sealed still", fault, at)
			}
		}
	}
}

// P1.3: two bytes have a sum each, whatever they are.
func TestTwoBytes(t *testing.T) {
	seen := map[uint32]bool{}
	for i := range 1 << 16 {
		seen[crc.Sum([]byte{byte(i), byte(i >> 8)})] = true
	}
	if len(seen) != 1<<16 {
		t.Errorf("%d sums of two bytes", len(seen))
	}
}

// P1.3: the sum of three lists upon one another is their sums so.
func TestThreeUponOneAnother(t *testing.T) {
	for many := range 100 {
		seed := uint64(many) * 3
		a, b, c := numbered(seed, many), numbered(seed+1, many), numbered(seed+2, many)
		if n, want := crc.Sum(upon(a, b, c)), crc.Sum(a)^crc.Sum(b)^crc.Sum(c); n != want {
			t.Errorf("three lists of %d bytes: %x, want %x", many, n, want)
		}
	}
}
