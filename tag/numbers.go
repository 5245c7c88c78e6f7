package tag

import "math/bits"

const (
	piece    = 16                 // bytes that make one number of a text
	pastTop  = 5                  // what 2^130 is, modulo p = 2^130 - 5
	topBits  = 2                  // of the highest word, those below 2^130
	topMask  = 1<<topBits - 1     // these bits
	keptLow  = 0x0ffffffc0fffffff // the bits that count in r's lower word
	keptHigh = 0x0ffffffc0ffffffc // and in its higher one
)

// number is three words of 64 bits, the lowest one first. It may be above p, but is below 2^131.
type number [3]uint64

// factor: r, the words of the key's first half; both are below 2^60.
func factor(key [32]byte) [2]uint64 {
	return [2]uint64{word(key[0:8]) & keptLow, word(key[8:16]) & keptHigh}
}

// addend: s, the number of the key's other half.
func addend(key [32]byte) number { return number{word(key[16:24]), word(key[24:32])} }

// read: the number of at most 16 bytes and of one byte 1 behind them; it is below 2^129.
func read(b []byte) number {
	var all [24]byte
	copy(all[:], b)
	all[len(b)] = 1
	return number{word(all[0:8]), word(all[8:16]), word(all[16:24])}
}

// word: the eight bytes of a word.
func word(b []byte) uint64 {
	return uint64(b[0]) | uint64(b[1])<<8 | uint64(b[2])<<16 | uint64(b[3])<<24 |
		uint64(b[4])<<32 | uint64(b[5])<<40 | uint64(b[6])<<48 | uint64(b[7])<<56
}

// bytes: those of the lower two words; what is above them does not count in a tag.
func (n number) bytes() [Size]byte {
	var out [Size]byte
	for i := range out {
		out[i] = byte(n[i/8] >> (i % 8 * 8))
	}
	return out
}

// plus: n + m.
func (n number) plus(m number) number {
	var carry uint64
	for i := range n {
		n[i], carry = bits.Add64(n[i], m[i], carry)
	}
	return n
}

// times: n r modulo p, below 2^130 + 2^128, so that with a piece of a text it is below 2^131 still.
func (n number) times(r [2]uint64) number {
	z := wide(n, r)
	low := number{z[0], z[1], z[2] & topMask}
	high := number{z[2]>>topBits | z[3]<<(64-topBits), z[3] >> topBits}
	// n r is below 2^255: high is below 2^125, and 5 times that below 2^128.
	var over uint64
	for i := range low {
		low[i], over = step(low[i], high[i], pastTop, over)
	}
	return low
}

// wide: n r with all its bits.
func wide(n number, r [2]uint64) [4]uint64 {
	var z [4]uint64
	for i, w := range r {
		var over uint64
		for k, v := range n {
			z[i+k], over = step(z[i+k], v, w, over)
		}
		// Nothing is over now: n's highest word is below 2^3, and w below 2^60.
	}
	return z
}

// step: x + y w + more, as a word and what is over it.
// That fits: 2^64 - 1 twice, and (2^64 - 1)^2, are 2^128 - 1 together.
func step(x, y, w, more uint64) (low, over uint64) {
	over, low = bits.Mul64(y, w)
	low, carry := bits.Add64(low, more, 0)
	over += carry
	low, carry = bits.Add64(low, x, 0)
	return low, over + carry
}

// reduced: n modulo p, below p; n is below 2p.
func (n number) reduced() number {
	// n reaches p if n + 5 reaches 2^130, and then n + 5 without 2^130 is n - p.
	m := n.plus(number{pastTop})
	if m[2]>>topBits == 0 {
		return n
	}
	m[2] &= topMask
	return m
}
