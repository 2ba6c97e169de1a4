package crc

import "testing"

// P1.1: bytes of lists come in order, and none comes once they are left.
func TestEachByte(t *testing.T) {
	lists := [][]byte{nil, []byte("ab"), {}, []byte("c"), []byte("de")}
	for stop := range 6 {
		var got []byte
		eachByte(lists...)(func(x byte) bool {
			got = append(got, x)
			return len(got) <= stop
		})
		if want := "abcde"[:min(stop+1, 5)]; string(got) != want {
			t.Errorf("left behind %d: %q, want %q", stop, got, want)
		}
	}
}

// P1.2: fewer bytes than a seal has can't be cut off.
func TestCutOff(t *testing.T) {
	for many := range 8 {
		ahead, behind, ok := cutOff(make([]byte, many), sealSize)
		if ok != (many >= sealSize) || ok && (len(ahead) != many-sealSize || len(behind) != sealSize) {
			t.Errorf("of %d bytes: %d, %d, %v", many, len(ahead), len(behind), ok)
		}
	}
}
