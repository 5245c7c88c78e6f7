package limb_test

import (
	"math/big"
	"math/rand"
	"testing"

	"signetring/limb"
)

// power: 2^n + more.
func power(n uint, more int64) *big.Int {
	x := new(big.Int).Lsh(big.NewInt(1), n)
	return x.Add(x, big.NewInt(more))
}

var p = power(255, -19)

// num: a number's bytes; it must have 256 bits at most.
func num(x *big.Int) limb.Num {
	var high, low limb.Num
	x.FillBytes(high[:])
	for i, b := range high {
		low[31-i] = b
	}
	return low
}

// value: what bytes stand for, written here once more and not taken from the package.
func value(a limb.Num) *big.Int {
	var high limb.Num
	for i, b := range a {
		high[31-i] = b
	}
	return new(big.Int).SetBytes(high[:])
}

// edges: the numbers where something carries, wraps round or is p.
func edges() []limb.Num {
	var all []limb.Num
	for _, x := range []*big.Int{
		big.NewInt(0), big.NewInt(1), big.NewInt(2), big.NewInt(18), big.NewInt(19), big.NewInt(37), big.NewInt(38),
		power(63, 0), power(64, -1), power(64, 0), power(128, -1), power(192, 0), power(254, 0),
		power(255, -21), power(255, -20), power(255, -19), power(255, -18), power(255, -1), power(255, 0), power(255, 1),
		power(256, -39), power(256, -38), power(256, -37), power(256, -19), power(256, -2), power(256, -1),
	} {
		all = append(all, num(x))
	}
	return all
}

// ordinary: numbers of no special kind, the same ones at each run.
func ordinary(n int) []limb.Num {
	r := rand.New(rand.NewSource(1))
	all := make([]limb.Num, n)
	for i := range all {
		for k := range all[i] {
			all[i][k] = byte(r.Intn(256))
		}
	}
	return all
}

func numbers() []limb.Num { return append(edges(), ordinary(60)...) }

// check: got is the very number that want is modulo p, and so below p.
func check(t *testing.T, what string, got limb.Num, want *big.Int) {
	t.Helper()
	if w := new(big.Int).Mod(want, p); value(got).Cmp(w) != 0 {
		t.Errorf("%s: %d, not %d", what, value(got), w)
	}
}

// same: two ways lead to one number.
func same(t *testing.T, what string, a, b limb.Num) {
	t.Helper()
	if a != b {
		t.Errorf("%s: %d and %d", what, value(a), value(b))
	}
}

func TestBytesLowestFirst(t *testing.T) {
	if got, want := limb.Mul(limb.Num{0, 1}, limb.Num{0, 1}), (limb.Num{0, 0, 1}); got != want {
		t.Errorf("256 256: %x", got)
	}
	if got, want := limb.Add(limb.Num{255, 255}, limb.Num{2}), (limb.Num{1, 0, 1}); got != want {
		t.Errorf("65535 + 2: %x", got)
	}
}

func TestExamples(t *testing.T) {
	check(t, "Mul(2^255 - 18, 7)", limb.Mul(num(power(255, -18)), limb.Num{7}), big.NewInt(7))
	check(t, "Reduce(2^256 - 1)", limb.Reduce(num(power(256, -1))), big.NewInt(37))
}

// P1.1
func TestReduce(t *testing.T) {
	for _, a := range numbers() {
		check(t, "Reduce", limb.Reduce(a), value(a))
	}
	for _, c := range []struct{ in, out *big.Int }{
		{big.NewInt(0), big.NewInt(0)},
		{power(255, -20), power(255, -20)},
		{power(255, -19), big.NewInt(0)},
		{power(255, -18), big.NewInt(1)},
		{power(255, -1), big.NewInt(18)},
		{power(255, 0), big.NewInt(19)},
		{power(256, -39), power(255, -20)},
		{power(256, -38), big.NewInt(0)},
		{power(256, -37), big.NewInt(1)},
	} {
		if got := value(limb.Reduce(num(c.in))); got.Cmp(c.out) != 0 {
			t.Errorf("Reduce(%d): %d, not %d", c.in, got, c.out)
		}
	}
}

// P1.1
func TestReduceNearMultiples(t *testing.T) {
	for times := int64(0); times <= 2; times++ {
		at := new(big.Int).Mul(p, big.NewInt(times))
		for more := int64(-40); more <= 40; more++ {
			x := new(big.Int).Add(at, big.NewInt(more))
			if x.Sign() >= 0 && x.BitLen() <= 256 {
				check(t, "Reduce near p", limb.Reduce(num(x)), x)
			}
		}
	}
}

// P1.1
func TestZero(t *testing.T) {
	for _, a := range numbers() {
		want := new(big.Int).Mod(value(a), p).Sign() == 0
		if got := limb.Zero(a); got != want {
			t.Errorf("Zero(%d): %t", value(a), got)
		}
	}
	for _, x := range []*big.Int{big.NewInt(0), p, power(256, -38)} {
		if !limb.Zero(num(x)) {
			t.Errorf("Zero(%d): false", x)
		}
	}
	for i := range uint(256) {
		if limb.Zero(num(power(i, 0))) {
			t.Errorf("Zero(2^%d): true", i)
		}
	}
}

// P1.2
func TestAddSubMul(t *testing.T) {
	all := numbers()
	for _, a := range all {
		for _, b := range all {
			x, y := value(a), value(b)
			check(t, "Add", limb.Add(a, b), new(big.Int).Add(x, y))
			check(t, "Sub", limb.Sub(a, b), new(big.Int).Sub(x, y))
			check(t, "Mul", limb.Mul(a, b), new(big.Int).Mul(x, y))
		}
	}
}

// P1.2: each word meets each other one, with carries through all of them.
func TestMulOfBits(t *testing.T) {
	for i := range uint(256) {
		for k := i; k < 256; k += 7 {
			a, b := power(i, 0), power(k, 0)
			check(t, "Mul of powers", limb.Mul(num(a), num(b)), new(big.Int).Mul(a, b))
			a, b = power(i, -1), power(k, -1)
			check(t, "Mul of ones", limb.Mul(num(a), num(b)), new(big.Int).Mul(a, b))
		}
	}
}

// P1.3
func TestInv(t *testing.T) {
	e := power(255, -21)
	for _, a := range numbers() {
		check(t, "Inv", limb.Inv(a), new(big.Int).Exp(value(a), e, p))
	}
	for _, x := range []*big.Int{big.NewInt(0), p, power(256, -38)} {
		if got := limb.Inv(num(x)); got != (limb.Num{}) {
			t.Errorf("Inv(%d): %d, not 0", x, value(got))
		}
	}
	check(t, "Inv(1)", limb.Inv(limb.Num{1}), big.NewInt(1))
	check(t, "Inv(p + 1)", limb.Inv(num(power(255, -18))), big.NewInt(1))
	check(t, "Inv(p - 1)", limb.Inv(num(power(255, -20))), big.NewInt(-1))
	check(t, "Inv(2)", limb.Inv(limb.Num{2}), power(254, -9))
}

// P1.4
func TestSwap(t *testing.T) {
	all := numbers()
	for i, a := range all {
		b := all[(i+5)%len(all)]
		if u, v := limb.Swap(true, a, b); u != b || v != a {
			t.Errorf("Swap(true, %d, %d): %d, %d", value(a), value(b), value(u), value(v))
		}
		if u, v := limb.Swap(false, a, b); u != a || v != b {
			t.Errorf("Swap(false, %d, %d): %d, %d", value(a), value(b), value(u), value(v))
		}
	}
}

// P1.4: what is p or more comes out as it went in.
func TestSwapDoesNotReduce(t *testing.T) {
	a, b := num(power(256, -1)), num(p)
	if u, v := limb.Swap(true, a, b); u != b || v != a {
		t.Errorf("swapped: %x, %x", u, v)
	}
	if u, v := limb.Swap(false, a, b); u != a || v != b {
		t.Errorf("as they are: %x, %x", u, v)
	}
}

// P1.5
func TestFieldOfThree(t *testing.T) {
	all := append(edges(), ordinary(6)...)
	for _, a := range all {
		for _, b := range all {
			for _, c := range all {
				same(t, "sums, what is done first", limb.Add(limb.Add(a, b), c), limb.Add(a, limb.Add(b, c)))
				same(t, "products, what is done first", limb.Mul(limb.Mul(a, b), c), limb.Mul(a, limb.Mul(b, c)))
				same(t, "products through sums", limb.Mul(a, limb.Add(b, c)), limb.Add(limb.Mul(a, b), limb.Mul(a, c)))
				same(t, "products through differences", limb.Mul(a, limb.Sub(b, c)), limb.Sub(limb.Mul(a, b), limb.Mul(a, c)))
			}
		}
	}
}

// P1.5
func TestFieldOfTwo(t *testing.T) {
	all := numbers()
	for _, a := range all {
		for _, b := range all {
			same(t, "sums, order", limb.Add(a, b), limb.Add(b, a))
			same(t, "products, order", limb.Mul(a, b), limb.Mul(b, a))
			same(t, "less, then more", limb.Add(limb.Sub(a, b), b), limb.Reduce(a))
		}
	}
}

// P1.5
func TestFieldOfOne(t *testing.T) {
	for _, a := range numbers() {
		same(t, "a - a", limb.Sub(a, a), limb.Num{})
		same(t, "a - Reduce(a)", limb.Sub(a, limb.Reduce(a)), limb.Num{})
		want := limb.Num{1}
		if limb.Zero(a) {
			want = limb.Num{}
		}
		same(t, "a Inv(a)", limb.Mul(a, limb.Inv(a)), want)
		same(t, "Inv(Inv(a))", limb.Inv(limb.Inv(a)), limb.Reduce(a))
	}
}

// R6: arguments stay as they were.
func TestArgumentsStay(t *testing.T) {
	a, b := num(power(256, -1)), num(power(255, -18))
	x, y := a, b
	limb.Reduce(a)
	limb.Add(a, b)
	limb.Sub(a, b)
	limb.Mul(a, b)
	limb.Inv(a)
	limb.Zero(a)
	limb.Swap(true, a, b)
	if a != x || b != y {
		t.Errorf("an argument was changed: %x, %x", a, b)
	}
}

func FuzzAgainstBig(f *testing.F) {
	f.Add([]byte{1}, []byte{2})
	f.Add(make([]byte, 32), make([]byte, 32))
	f.Fuzz(func(t *testing.T, l, m []byte) {
		var a, b limb.Num
		copy(a[:], l)
		copy(b[:], m)
		x, y := value(a), value(b)
		check(t, "Reduce", limb.Reduce(a), x)
		check(t, "Add", limb.Add(a, b), new(big.Int).Add(x, y))
		check(t, "Sub", limb.Sub(a, b), new(big.Int).Sub(x, y))
		check(t, "Mul", limb.Mul(a, b), new(big.Int).Mul(x, y))
		check(t, "Inv", limb.Inv(a), new(big.Int).Exp(x, power(255, -21), p))
	})
}

func BenchmarkMul(b *testing.B) {
	a := num(power(256, -1))
	for b.Loop() {
		a = limb.Mul(a, a)
	}
}

func BenchmarkInv(b *testing.B) {
	a := num(power(256, -3))
	for b.Loop() {
		a = limb.Inv(a)
	}
}
