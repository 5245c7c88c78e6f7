package stream

import "testing"

// P5.1: from inside, since a block's quarters are not to be seen one by one. RFC 8439, 2.1.1 and 2.2.1.
func TestQuarter(t *testing.T) {
	for _, c := range []struct{ was, want [4]uint32 }{
		{[4]uint32{0x11111111, 0x01020304, 0x9b8d6f43, 0x01234567}, [4]uint32{0xea2a92f4, 0xcb1cf8ce, 0x4581472e, 0x5881c4bb}},
		{[4]uint32{0x516461b1, 0x2a5f714c, 0x53372767, 0x3d631689}, [4]uint32{0xbdb886dc, 0xcfacafd2, 0xe46bea80, 0xccc07c79}},
		{[4]uint32{}, [4]uint32{}},
	} {
		a, b, x, d := quarter(c.was[0], c.was[1], c.was[2], c.was[3])
		if got := [4]uint32{a, b, x, d}; got != c.want {
			t.Errorf("the quarter of %x: %x, not %x", c.was, got, c.want)
		}
	}
}

// P5.1: from inside, each byte at its place. RFC 8439, 2.3.2.
func TestLaid(t *testing.T) {
	var key [32]byte
	for i := range key {
		key[i] = byte(i)
	}
	want := words{
		0x61707865, 0x3320646e, 0x79622d32, 0x6b206574,
		0x03020100, 0x07060504, 0x0b0a0908, 0x0f0e0d0c,
		0x13121110, 0x17161514, 0x1b1a1918, 0x1f1e1d1c,
		0x00000001, 0x09000000, 0x4a000000, 0x00000000,
	}
	if got := laid(key, [12]byte{3: 9, 7: 0x4a}, 1); got != want {
		t.Errorf("%x, not %x", got, want)
	}
	if got := read(want.bytes()); got != want {
		t.Errorf("as bytes, and as words again: %x, not %x", got, want)
	}
}

// P5.1: from inside, the words ahead of the sums. RFC 8439, 2.3.2.
func TestMixed(t *testing.T) {
	var key [32]byte
	for i := range key {
		key[i] = byte(i)
	}
	want := words{
		0x837778ab, 0xe238d763, 0xa67ae21e, 0x5950bb2f,
		0xc4f2d0c7, 0xfc62bb2f, 0x8fa018fc, 0x3f5ec7b7,
		0x335271c2, 0xf29489f3, 0xeabda8fc, 0x82e46ebd,
		0xd19c12b4, 0xb04e16de, 0x9e83d0cb, 0x4e3c50a2,
	}
	first := laid(key, [12]byte{3: 9, 7: 0x4a}, 1)
	was := first
	if got := first.mixed(); got != want || first != was {
		t.Errorf("%x, not %x", got, want)
	}
}

// P5.2: from inside, since Xor answers the same at each number of blocks, but at the last counts.
func TestBlocks(t *testing.T) {
	for n := range mostBytes + 1 {
		whole := n / block
		if n%block > 0 {
			whole++
		}
		if got := blocks(n); got != whole {
			t.Fatalf("%d bytes: %d blocks, not %d", n, got, whole)
		}
	}
}
