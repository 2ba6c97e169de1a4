package frame

import (
	"bytes"
	"testing"
)

// P15.1: bytes of words come in order, and none comes once they are left.
func TestOctets(t *testing.T) {
	all := []byte{4, 3, 2, 1, 0, 0, 0, 0, 0xff, 0xfe, 0xfd, 0xfc}
	for stop := range len(all) + 1 {
		var got []byte
		octets(0x01020304, 0, 0xfcfdfeff)(func(x byte) bool {
			got = append(got, x)
			return len(got) <= stop
		})
		if want := all[:min(stop+1, len(all))]; !bytes.Equal(got, want) {
			t.Errorf("left behind %d: %x, want %x", stop, got, want)
		}
	}
	for x := range octets() {
		t.Errorf("of no words: %x", x)
	}
}

// P15.2: of keys below nought, too, the greatest is told.
func TestGreatest(t *testing.T) {
	key := func(x int) (int, bool) { return x, x%2 == 0 }
	rows := []struct {
		l    []int
		want int
	}{
		{nil, -1}, {[]int{1, 3}, -1}, {[]int{1, -4, -2, 3, -2}, 2}, {[]int{0, -2}, 0}, {[]int{-2, 0, 0}, 1},
	}
	for _, r := range rows {
		if at := greatest(key, r.l...); at != r.want {
			t.Errorf("greatest of %v: %d, want %d", r.l, at, r.want)
		}
	}
}
