package sha

import (
	"bytes"
	"encoding/binary"
	"testing"
)

// P3.1: from inside, since texts whose number of bits has more than 32 bits take long.
func TestFilling(t *testing.T) {
	for _, base := range []uint64{0, 64, 1 << 13, 1<<29 - 64, 1 << 29, 1<<31 - 64, 1 << 34, 1<<61 - 64} {
		for more := range uint64(64) {
			size := base + more
			fill := filling(size)
			zeros := len(fill) - 9
			if zeros < 0 || zeros > 63 || (size+uint64(len(fill)))%64 != 0 {
				t.Fatalf("%d bytes behind %d", len(fill), size)
			}
			want := append([]byte{128}, make([]byte, zeros)...)
			want = binary.BigEndian.AppendUint64(want, size*8)
			if !bytes.Equal(fill, want) {
				t.Errorf("behind %d bytes: %x, not %x", size, fill, want)
			}
		}
	}
}

// P3.2: a digest keeps no byte that it needs no more.
func TestNothingKept(t *testing.T) {
	text := bytes.Repeat([]byte{7}, 200)
	for n := range len(text) {
		want := [64]byte{}
		copy(want[:], text[:n%64])
		if d := (Digest{}).Write(text[:n]); d.rest != want {
			t.Errorf("of %d bytes it keeps %x", n, d.rest)
		}
	}
}
