package mac

import (
	"bytes"
	"testing"
)

// P4.3: from inside, since Keys goes through whole keys alone, and through all of them.
func TestCut(t *testing.T) {
	b := make([]byte, 200)
	for i := range b {
		b[i] = byte(i)
	}
	for n := range len(b) + 1 {
		keys, again := cut(b[:n]), 0
		for range 2 {
			var all []byte
			for k := range keys {
				all = append(all, k[:]...)
			}
			if !bytes.Equal(all, b[:n/32*32]) {
				t.Errorf("%d bytes as keys: %x", n, all)
			}
		}
		for k := range keys {
			if again++; k != [32]byte(b[32*(again-1):]) {
				t.Errorf("key %d of %d bytes: %x", again, n, k)
			}
			if again == 2 {
				break
			}
		}
		if again != min(2, n/32) {
			t.Errorf("%d keys of %d bytes", again, n)
		}
	}
}

// P4.1: from inside, since Sum has one piece alone.
func TestSumOfPieces(t *testing.T) {
	k := keyedBy([]byte("key"))
	was := k
	want := Sum([]byte("key"), []byte("abc"))
	for _, pieces := range [][][]byte{{[]byte("abc")}, {[]byte("a"), []byte("bc")}, {nil, []byte("ab"), nil, []byte("c")}} {
		if got := k.sum(pieces...); got != want || k != was {
			t.Errorf("%q: %x, not %x", pieces, got, want)
		}
	}
	if k.sum() != Sum([]byte("key"), nil) {
		t.Error("no pieces")
	}
}
