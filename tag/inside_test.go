package tag

import (
	"math/big"
	"math/rand"
	"testing"
)

// big: the number as one of any size.
func (n number) big() *big.Int {
	all := new(big.Int)
	for i := len(n) - 1; i >= 0; i-- {
		all.Lsh(all, 64).Or(all, new(big.Int).SetUint64(n[i]))
	}
	return all
}

// edges: numbers below 2^131, at the edges of words and of p.
func edges() []number {
	const all = 1<<64 - 1
	return []number{
		{}, {1}, {all}, {0, 1}, {all, all}, {0, 0, 1}, {all, all, 1}, {0, 0, 2},
		{all - 5, all, 3}, {all - 4, all, 3}, {all - 3, all, 3}, {all, all, 3},
		{0, 0, 4}, {1, 0, 4}, {all, all, 4}, {0, 0, 5}, {all, all, 6},
		{all - 11, all, 7}, {all - 10, all, 7}, {all, all, 7},
	}
}

// prime is p.
func prime() *big.Int { return number{1<<64 - 5, 1<<64 - 1, 3}.big() }

// P6.1: from inside, since few texts come to a number between p and what is left of a product.
func TestReduced(t *testing.T) {
	twice := new(big.Int).Lsh(prime(), 1)
	for _, n := range edges() {
		if n.big().Cmp(twice) >= 0 {
			continue
		}
		if got, want := n.reduced().big(), new(big.Int).Mod(n.big(), prime()); got.Cmp(want) != 0 {
			t.Errorf("%x modulo p: %x, not %x", n, got, want)
		}
	}
}

// P6.1: from inside, the greatest factors, and that a product leaves room for a piece of a text.
func TestTimes(t *testing.T) {
	factors := [][2]uint64{{}, {1}, {0, 4}, {keptLow, keptHigh}, {keptLow}, {0, keptHigh}}
	numbers := edges()
	random := rand.New(rand.NewSource(1))
	for range 500 {
		factors = append(factors, [2]uint64{random.Uint64() & keptLow, random.Uint64() & keptHigh})
		numbers = append(numbers, number{random.Uint64(), random.Uint64(), random.Uint64() % 8})
	}
	for _, r := range factors {
		for _, n := range numbers {
			want := new(big.Int).Mul(n.big(), number{r[0], r[1]}.big())
			got := n.times(r)
			if new(big.Int).Mod(got.big(), prime()).Cmp(want.Mod(want, prime())) != 0 {
				t.Errorf("%x times %x: %x, not %x", n, r, got, want)
			}
			if got[2] > 4 {
				t.Errorf("%x times %x is too great: %x", n, r, got)
			}
		}
	}
}

// P6.1: from inside, since a product that lost bits above 2^255 would seldom be seen.
func TestWide(t *testing.T) {
	for _, n := range edges() {
		for _, r := range [][2]uint64{{}, {1}, {0, 4}, {keptLow, keptHigh}, {keptLow}, {0, keptHigh}} {
			got := new(big.Int)
			z := wide(n, r)
			for i := len(z) - 1; i >= 0; i-- {
				got.Lsh(got, 64).Or(got, new(big.Int).SetUint64(z[i]))
			}
			if want := new(big.Int).Mul(n.big(), number{r[0], r[1]}.big()); got.Cmp(want) != 0 {
				t.Errorf("%x times %x: %x, not %x", n, r, got, want)
			}
		}
	}
}

// P6.1: from inside, the number of each size of a piece.
func TestRead(t *testing.T) {
	for size := range piece + 1 {
		b := make([]byte, size)
		for i := range b {
			b[i] = byte(255 - i)
		}
		want := big.NewInt(1)
		for i := size - 1; i >= 0; i-- {
			want.Lsh(want, 8).Or(want, big.NewInt(int64(b[i])))
		}
		if got := read(b); got.big().Cmp(want) != 0 {
			t.Errorf("%x: %x, not %x", b, got, want)
		}
	}
}
