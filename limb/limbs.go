package limb

import "math/bits"

// limbs are a number's four words of 64 bits, the lowest one first. Like a Num
// they may be any number of 256 bits, unless a function says that they are below p.
type limbs [4]uint64

const (
	topBit  = 1 << 63 // of the highest word: it stands for 2^255
	pastTop = 19      // what 2^255 is, modulo p
	pastEnd = 38      // what 2^256 is, modulo p
)

// prime is p itself.
var prime = limbs{1<<64 - 19, 1<<64 - 1, 1<<64 - 1, 1<<63 - 1}

// load: the words of a number.
func load(a Num) limbs {
	return limbs{word(a[0:8]), word(a[8:16]), word(a[16:24]), word(a[24:32])}
}

// word: the eight bytes of a word.
func word(b []byte) uint64 {
	return uint64(b[0]) | uint64(b[1])<<8 | uint64(b[2])<<16 | uint64(b[3])<<24 |
		uint64(b[4])<<32 | uint64(b[5])<<40 | uint64(b[6])<<48 | uint64(b[7])<<56
}

// store: the bytes of a number.
func store(x limbs) Num {
	var a Num
	for i, w := range x {
		for k := range 8 {
			a[8*i+k] = byte(w >> (8 * k))
		}
	}
	return a
}

// add: x + y, and what is carried out of the highest word.
func add(x, y limbs) (limbs, uint64) {
	var carry uint64
	for i := range x {
		x[i], carry = bits.Add64(x[i], y[i], carry)
	}
	return x, carry
}

// reduce: x modulo p, below p.
func reduce(x limbs) limbs {
	high := x[3] >> 63
	x[3] &^= topBit
	x, _ = add(x, limbs{high * pastTop})
	// x is now below 2^255 + 19, and so below 2p: p goes out of it at most once.
	// It does if x + 19 reaches 2^255, and then x + 19 without that bit is x - p.
	y, _ := add(x, limbs{pastTop})
	if y[3]&topBit == 0 {
		return x
	}
	y[3] &^= topBit
	return y
}

// fold: x + top 2^256 modulo p, below p; top is at most 38.
func fold(x limbs, top uint64) limbs {
	x, carry := add(x, limbs{top * pastEnd})
	// A carry leaves less than 38 38 behind: a second one cannot come.
	x, _ = add(x, limbs{carry * pastEnd})
	return reduce(x)
}

// sum: x + y modulo p, below p.
func sum(x, y limbs) limbs { return fold(add(x, y)) }

// negative: what goes with x to a sum of p.
func negative(x limbs) limbs {
	x, y := reduce(x), prime
	var borrow uint64
	for i := range y {
		y[i], borrow = bits.Sub64(y[i], x[i], borrow)
	}
	return y
}

// product: x y modulo p, below p.
func product(x, y limbs) limbs {
	z := wide(x, y)
	// Modulo p the upper half counts 38 times in the lower one; top comes to 38 at most.
	var top uint64
	for i := range 4 {
		z[i], top = step(z[i], z[i+4], pastEnd, top)
	}
	return fold(limbs{z[0], z[1], z[2], z[3]}, top)
}

// wide: x y with all its 512 bits.
func wide(x, y limbs) [8]uint64 {
	var z [8]uint64
	for i, w := range y {
		var over uint64
		for k, v := range x {
			z[i+k], over = step(z[i+k], v, w, over)
		}
		z[i+4] = over
	}
	return z
}

// step: x + y w + more, as a word and what is over it.
// That fits: 2^64 - 1 twice, and (2^64 - 1)^2, are 2^128 - 1 together.
func step(x, y, w, more uint64) (low, over uint64) {
	over, low = bits.Mul64(y, w)
	low, carry := bits.Add64(low, more, 0)
	over += carry
	low, carry = bits.Add64(low, x, 0)
	return low, over + carry
}

// inverse: x to the power of p - 2, by squares and products from the highest bit down.
func inverse(x limbs) limbs {
	power := prime
	power[0] -= 2
	y := limbs{1}
	for i := 254; i >= 0; i-- {
		y = product(y, y)
		if power[i/64]>>(i%64)&1 == 1 {
			y = product(y, x)
		}
	}
	return y
}
