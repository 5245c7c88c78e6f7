// Package limb is layer 1: numbers modulo p = 2^255 - 19 (see shared/doc/01-limb.md).
package limb

// Num is 32 bytes of a number, the lowest one first; all 256 bits may be set.
type Num = [32]byte

// Reduce: the least one that is the same modulo p.
func Reduce(a Num) Num { return store(reduce(load(a))) }

// Add: a + b, modulo p.
func Add(a, b Num) Num { return store(sum(load(a), load(b))) }

// Sub: a - b, modulo p.
func Sub(a, b Num) Num { return store(sum(load(a), negative(load(b)))) }

// Mul: a b, modulo p.
func Mul(a, b Num) Num { return store(product(load(a), load(b))) }

// Inv: a to the power of p - 2, modulo p, whose product with a is 1; 0 of 0.
func Inv(a Num) Num { return store(inverse(load(a))) }

// Zero: is it 0, modulo p?
func Zero(a Num) bool { return Reduce(a) == Num{} }

// Swap: b and a if so, else a and b; neither is reduced.
func Swap(is bool, a, b Num) (Num, Num) {
	if is {
		return b, a
	}
	return a, b
}
