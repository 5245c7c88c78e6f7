package sha

import "math/bits"

// block is how many bytes are mixed in at once.
const block = 64

// words are the words a, .., h of a state.
type words [8]uint32

// first: the first state, the square roots of the first 8 primes behind the point.
func first() words {
	return words{
		0x6a09e667, 0xbb67ae85, 0x3c6ef372, 0xa54ff53a, 0x510e527f, 0x9b05688c, 0x1f83d9ab, 0x5be0cd19,
	}
}

// roots are the constants K: the cube roots of the first 64 primes behind the point.
var roots = [64]uint32{
	0x428a2f98, 0x71374491, 0xb5c0fbcf, 0xe9b5dba5, 0x3956c25b, 0x59f111f1, 0x923f82a4, 0xab1c5ed5,
	0xd807aa98, 0x12835b01, 0x243185be, 0x550c7dc3, 0x72be5d74, 0x80deb1fe, 0x9bdc06a7, 0xc19bf174,
	0xe49b69c1, 0xefbe4786, 0x0fc19dc6, 0x240ca1cc, 0x2de92c6f, 0x4a7484aa, 0x5cb0a9dc, 0x76f988da,
	0x983e5152, 0xa831c66d, 0xb00327c8, 0xbf597fc7, 0xc6e00bf3, 0xd5a79147, 0x06ca6351, 0x14292967,
	0x27b70a85, 0x2e1b2138, 0x4d2c6dfc, 0x53380d13, 0x650a7354, 0x766a0abb, 0x81c2c92e, 0x92722c85,
	0xa2bfe8a1, 0xa81a664b, 0xc24b8b70, 0xc76c51a3, 0xd192e819, 0xd6990624, 0xf40e3585, 0x106aa070,
	0x19a4c116, 0x1e376c08, 0x2748774c, 0x34b0bcb5, 0x391c0cb3, 0x4ed8aa4a, 0x5b9cca4f, 0x682e6ff3,
	0x748f82ee, 0x78a5636f, 0x84c87814, 0x8cc70208, 0x90befffa, 0xa4506ceb, 0xbef9a3f7, 0xc67178f2,
}

// turned: x turned to the right by each of the amounts, all of that by exclusive or.
func turned(x uint32, amounts ...int) uint32 {
	var all uint32
	for _, n := range amounts {
		all ^= bits.RotateLeft32(x, -n)
	}
	return all
}

// plus: each word and more's one in its place.
func (s words) plus(more words) words {
	for i := range s {
		s[i] += more[i]
	}
	return s
}

// bytes: the words one behind the other, the highest byte of each first.
func (s words) bytes() [Size]byte {
	var out [Size]byte
	for i := range out {
		out[i] = byte(s[i/4] >> (24 - i%4*8))
	}
	return out
}

// mixed: the state behind the 64 rounds of a block, not added to the one ahead of them yet.
func (s words) mixed(b [block]byte) words {
	var now words
	copy(now[:], s[:])
	for i, w := range spread(b) {
		now.round(roots[i] + w)
	}
	return now
}

// round: the state goes a round on; more is what the constant and the block's word bring.
func (s *words) round(more uint32) {
	a, b, c, e, f, g, h := s[0], s[1], s[2], s[4], s[5], s[6], s[7]
	t := h + turned(e, 6, 11, 25) + (e&f ^ ^e&g) + more
	u := turned(a, 2, 13, 22) + (a&b ^ a&c ^ b&c)
	copy(s[1:], s[:7])
	s[4] += t
	s[0] = t + u
}

// spread: the words W of a block.
func spread(b [block]byte) [64]uint32 {
	var w [64]uint32
	for i, x := range b {
		w[i/4] = w[i/4]<<8 | uint32(x)
	}
	for i := 16; i < len(w); i++ {
		near, far := w[i-2], w[i-15]
		w[i] = (turned(near, 17, 19) ^ near>>10) + w[i-7] + (turned(far, 7, 18) ^ far>>3) + w[i-16]
	}
	return w
}
