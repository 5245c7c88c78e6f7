package stream

import "math/bits"

// name is what stands ahead of the key.
const name = "expand 32-byte k"

// words are the sixteen words of a block.
type words [16]uint32

// laid: the words of a block at first.
func laid(key [32]byte, nonce [12]byte, count uint32) words {
	var b [block]byte
	copy(b[:16], name)
	copy(b[16:48], key[:])
	copy(b[52:], nonce[:])
	s := read(b)
	s[12] = count
	return s
}

// read: the words of bytes, the lowest byte of each first.
func read(b [block]byte) words {
	var s words
	for i, x := range b {
		s[i/4] |= uint32(x) << (i % 4 * 8)
	}
	return s
}

// bytes: the words one behind the other, the lowest byte of each first.
func (s words) bytes() [block]byte {
	var out [block]byte
	for i := range out {
		out[i] = byte(s[i/4] >> (i % 4 * 8))
	}
	return out
}

// plus: each word and more's one in its place.
func (s words) plus(more words) words {
	for i := range s {
		s[i] += more[i]
	}
	return s
}

// mixed: the words behind all rounds, not added to those at first yet.
func (s words) mixed() words {
	for range 10 {
		s[0], s[4], s[8], s[12] = quarter(s[0], s[4], s[8], s[12])
		s[1], s[5], s[9], s[13] = quarter(s[1], s[5], s[9], s[13])
		s[2], s[6], s[10], s[14] = quarter(s[2], s[6], s[10], s[14])
		s[3], s[7], s[11], s[15] = quarter(s[3], s[7], s[11], s[15])
		s[0], s[5], s[10], s[15] = quarter(s[0], s[5], s[10], s[15])
		s[1], s[6], s[11], s[12] = quarter(s[1], s[6], s[11], s[12])
		s[2], s[7], s[8], s[13] = quarter(s[2], s[7], s[8], s[13])
		s[3], s[4], s[9], s[14] = quarter(s[3], s[4], s[9], s[14])
	}
	return s
}

// quarter: four words, mixed with each other.
func quarter(a, b, c, d uint32) (uint32, uint32, uint32, uint32) {
	a += b
	d = bits.RotateLeft32(d^a, 16)
	c += d
	b = bits.RotateLeft32(b^c, 12)
	a += b
	d = bits.RotateLeft32(d^a, 8)
	c += d
	b = bits.RotateLeft32(b^c, 7)
	return a, b, c, d
}
