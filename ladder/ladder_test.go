package ladder_test

import (
	"bytes"
	"crypto/ecdh"
	"encoding/hex"
	"math/big"
	"math/rand"
	"testing"

	"signetring/ladder"
	"signetring/limb"
)

// num: the number of 64 hexadecimal digits, the lowest byte first.
func num(digits string) limb.Num {
	b, err := hex.DecodeString(digits)
	if err != nil || len(b) != 32 {
		panic("not 32 bytes: " + digits)
	}
	return limb.Num(b)
}

// power: 2^n + more, as bytes; it must have 256 bits at most.
func power(n uint, more int64) limb.Num {
	x := new(big.Int).Lsh(big.NewInt(1), n)
	return fromBig(x.Add(x, big.NewInt(more)))
}

func fromBig(x *big.Int) limb.Num {
	var high, low limb.Num
	x.FillBytes(high[:])
	for i, b := range high {
		low[31-i] = b
	}
	return low
}

func toBig(a limb.Num) *big.Int {
	var high limb.Num
	for i, b := range a {
		high[31-i] = b
	}
	return new(big.Int).SetBytes(high[:])
}

// flip: a with one bit as it was not.
func flip(a limb.Num, bit int) limb.Num {
	a[bit/8] ^= 1 << (bit % 8)
	return a
}

// ordinary: numbers of no special kind, the same ones at each run.
func ordinary(seed int64, n int) []limb.Num {
	r := rand.New(rand.NewSource(seed))
	all := make([]limb.Num, n)
	for i := range all {
		for k := range all[i] {
			all[i][k] = byte(r.Intn(256))
		}
	}
	return all
}

// full: all bits set.
var full = power(256, -1)

func secrets() []limb.Num {
	return append(ordinary(1, 6),
		limb.Num{}, full, limb.Num{1}, limb.Num{7}, limb.Num{8}, power(254, 0), power(255, 0), power(255, -1),
		num("77076d0a7318a57d3c16c17251b26645df4c2f87ebc0992ab177fba51db92c2a"))
}

// small: the points, below p, of which 0 comes whatever the secret is.
func small() []limb.Num {
	return []limb.Num{
		{}, {1}, power(255, -20),
		num("e0eb7a7c3b41b8ae1656e3faf19fc46ada098deb9c32b1fd866205165f49b800"),
		num("5f9c95bca3508c24b1d0b1559c83ef5b04445cc4581c8e86d8224eddd09f1157"),
	}
}

// nothing: all texts of 32 bytes of which 0 comes: the small points, p more where there is room, and the highest bit set.
func nothing() []limb.Num {
	all := append(small(), power(255, -19), power(255, -18))
	for _, u := range all {
		all = append(all, flip(u, 255))
	}
	return all
}

// points: ordinary ones, on the curve and beside it, and edges of which something comes.
func points() []limb.Num {
	return append(ordinary(2, 8),
		limb.Num{2}, limb.Num{9}, limb.Num{18}, limb.Num{19}, power(64, -1), power(254, 0), power(255, -21),
		power(255, -17), power(255, -10), power(255, -2), power(255, -1),
		power(255, 2), power(255, 9), power(256, -17), full)
}

// library: what the library comes to, and whether it is not 0.
func library(t *testing.T, k, u limb.Num) (limb.Num, bool) {
	t.Helper()
	secret, err := ecdh.X25519().NewPrivateKey(k[:])
	if err != nil {
		t.Fatal(err)
	}
	point, err := ecdh.X25519().NewPublicKey(u[:])
	if err != nil {
		t.Fatal(err)
	}
	got, err := secret.ECDH(point)
	if err != nil {
		return limb.Num{}, false
	}
	return limb.Num(got), true
}

// P2.1
func TestClamp(t *testing.T) {
	for _, c := range []struct{ in, out limb.Num }{
		{limb.Num{}, power(254, 0)},
		{full, power(255, -8)},
		{limb.Num{7}, power(254, 0)},
		{limb.Num{8}, power(254, 8)},
		{power(254, 0), power(254, 0)},
		{power(255, 0), power(254, 0)},
		{power(255, -1), power(255, -8)},
		{num("a546e36bf0527c9d3b16154b82465edd62144c0ac1fc5a18506a2244ba449ac4"),
			num("a046e36bf0527c9d3b16154b82465edd62144c0ac1fc5a18506a2244ba449a44")},
	} {
		if got := ladder.Clamp(c.in); got != c.out {
			t.Errorf("Clamp(%x): %x, not %x", c.in, got, c.out)
		}
	}
}

// P2.1: each bit by itself, set or not.
func TestClampBits(t *testing.T) {
	for _, k := range secrets() {
		got, was := toBig(ladder.Clamp(k)), toBig(k)
		for i := range 256 {
			want := was.Bit(i)
			switch i {
			case 0, 1, 2, 255:
				want = 0
			case 254:
				want = 1
			}
			if got.Bit(i) != want {
				t.Errorf("Clamp(%x): bit %d is %d", k, i, got.Bit(i))
			}
		}
		if once := ladder.Clamp(k); ladder.Clamp(once) != once {
			t.Errorf("Clamp(Clamp(%x)) is another one", k)
		}
	}
}

// P2.2: the chapter's example, and the others of RFC 7748.
func TestXExamples(t *testing.T) {
	for _, c := range [][3]string{
		{"77076d0a7318a57d3c16c17251b26645df4c2f87ebc0992ab177fba51db92c2a",
			"0900000000000000000000000000000000000000000000000000000000000000",
			"8520f0098930a754748b7ddcb43ef75a0dbf3a0d26381af4eba4a98eaa9b4e6a"},
		{"a546e36bf0527c9d3b16154b82465edd62144c0ac1fc5a18506a2244ba449ac4",
			"e6db6867583030db3594c1a424b15f7c726624ec26b3353b10a903a6d0ab1c4c",
			"c3da55379de9c6908e94ea4df28d084f32eccf03491c71f754b4075577a28552"},
		{"4b66e9d4d1b4673c5ad22691957d6af5c11b6421e0ea01d42ca4169e7918ba0d",
			"e5210f12786811d3f4b7959d0538ae2c31dbe7106fc03c3efc4cd549c715a493",
			"95cbde9476e8907d7aade45cb4b873f88b595a68799fa152e6f8f7647aac7957"},
	} {
		if got := ladder.X(num(c[0]), num(c[1])); got != num(c[2]) {
			t.Errorf("X(%s, %s): %x", c[0], c[1], got)
		}
	}
}

// P2.2: RFC 7748's long way, each answer the next secret and each secret the next point.
func TestXRepeated(t *testing.T) {
	k, u := limb.Num{9}, limb.Num{9}
	for i := range 1000 {
		k, u = ladder.X(k, u), k
		if i == 0 && k != num("422c8e7a6227d7bca1350b3e2bb7279f7897b87bb6854b783c60e80311ae3079") {
			t.Fatalf("once: %x", k)
		}
	}
	if k != num("684cf59ba83309552800ef566f2f4d3c1c3887c49360e3875f2eb94d99532c51") {
		t.Errorf("a thousand times: %x", k)
	}
}

// P2.2
func TestXAsLibrary(t *testing.T) {
	all := append(points(), nothing()...)
	for _, k := range secrets() {
		for _, u := range all {
			want, _ := library(t, k, u)
			if got := ladder.X(k, u); got != want {
				t.Errorf("X(%x, %x): %x, not %x", k, u, got, want)
			}
		}
	}
}

// byWords: P2.2 as it stands, with big integers: the library says nothing of what is on the way to 0.
func byWords(k, u limb.Num) limb.Num {
	p := toBig(power(255, -19))
	mod := func(x *big.Int) *big.Int { return x.Mod(x, p) }
	add := func(x, y *big.Int) *big.Int { return mod(new(big.Int).Add(x, y)) }
	sub := func(x, y *big.Int) *big.Int { return mod(new(big.Int).Sub(x, y)) }
	mul := func(x, y *big.Int) *big.Int { return mod(new(big.Int).Mul(x, y)) }
	n := toBig(k)
	for _, i := range []int{0, 1, 2, 255} {
		n.SetBit(n, i, 0)
	}
	n.SetBit(n, 254, 1)
	x := toBig(u)
	x = mod(x.SetBit(x, 255, 0))
	a, b, c, d := big.NewInt(1), big.NewInt(0), x, big.NewInt(1)
	for i := 254; i >= 0; i-- {
		if n.Bit(i) == 1 {
			a, b, c, d = c, d, a, b
		}
		s, t := add(a, b), sub(a, b)
		v, w := mul(add(c, d), t), mul(sub(c, d), s)
		ss, tt := mul(s, s), mul(t, t)
		e := sub(ss, tt)
		a, b = mul(ss, tt), mul(e, add(ss, mul(big.NewInt(121665), e)))
		c, d = mul(add(v, w), add(v, w)), mul(x, mul(sub(v, w), sub(v, w)))
		if n.Bit(i) == 1 {
			a, b, c, d = c, d, a, b
		}
	}
	return fromBig(mul(a, new(big.Int).Exp(b, sub(p, big.NewInt(2)), p)))
}

// P2.2
func TestXByWords(t *testing.T) {
	for _, k := range secrets() {
		for _, u := range append(nothing(), limb.Num{9}, limb.Num{2}, full, power(255, -1), power(255, -17)) {
			if got, want := ladder.X(k, u), byWords(k, u); got != want {
				t.Errorf("X(%x, %x): %x, not %x", k, u, got, want)
			}
		}
	}
}

// P2.2: no answer is p or more, whatever the point is.
func TestXBelowP(t *testing.T) {
	for _, u := range append(points(), nothing()...) {
		if got := ladder.X(full, u); got != limb.Reduce(got) {
			t.Errorf("X of %x: %x", u, got)
		}
	}
}

// P2.3
func TestPub(t *testing.T) {
	for _, k := range append(secrets(), ordinary(3, 20)...) {
		secret, err := ecdh.X25519().NewPrivateKey(k[:])
		if err != nil {
			t.Fatal(err)
		}
		got := ladder.Pub(k)
		if !bytes.Equal(got[:], secret.PublicKey().Bytes()) {
			t.Errorf("Pub(%x): %x", k, got)
		}
		if got != ladder.X(k, limb.Num{9}) {
			t.Errorf("Pub(%x) is not X of 9", k)
		}
	}
}

// P2.3
func TestShared(t *testing.T) {
	for _, k := range secrets() {
		for _, u := range points() {
			want, is := library(t, k, u)
			got, ok := ladder.Shared(k, u)
			if got != want || !is || !ok {
				t.Errorf("Shared(%x, %x): %x, %t, not %x", k, u, got, ok, want)
			}
			if got != ladder.X(k, u) {
				t.Errorf("Shared(%x, %x) is not X", k, u)
			}
		}
	}
}

// P2.3: points of which nothing comes, and those beside them, of which something does.
func TestSharedOfNothing(t *testing.T) {
	for _, k := range secrets() {
		for _, u := range nothing() {
			if got, is := ladder.Shared(k, u); is || got != (limb.Num{}) {
				t.Errorf("Shared(%x, %x): %x, %t", k, u, got, is)
			}
		}
		for _, u := range nothing() {
			near := flip(u, 3)
			if got, is := ladder.Shared(k, near); !is || got == (limb.Num{}) {
				t.Errorf("Shared(%x, %x): %x, %t", k, near, got, is)
			}
		}
	}
}

// P2.4
func TestEitherOrder(t *testing.T) {
	all := append(points(), nothing()...)
	ks := secrets()
	for i, k := range ks {
		l := ks[(i+4)%len(ks)]
		for _, u := range all {
			one, other := ladder.X(k, ladder.X(l, u)), ladder.X(l, ladder.X(k, u))
			if one != other {
				t.Errorf("%x and %x on %x: %x and %x", k, l, u, one, other)
			}
		}
	}
}

// P2.4
func TestOneShared(t *testing.T) {
	ks := append(secrets(), ordinary(4, 4)...)
	for _, k := range ks {
		for _, l := range ks {
			one, is := ladder.Shared(k, ladder.Pub(l))
			other, too := ladder.Shared(l, ladder.Pub(k))
			if one != other || !is || !too {
				t.Errorf("%x and %x: %x, %t and %x, %t", k, l, one, is, other, too)
			}
		}
	}
}

// P2.4: RFC 7748's two.
func TestOneSharedExample(t *testing.T) {
	a := num("77076d0a7318a57d3c16c17251b26645df4c2f87ebc0992ab177fba51db92c2a")
	b := num("5dab087e624a8a4b79e17f8b83800ee66f3bb1292618b6fd1c2f8b27ff88e0eb")
	want := num("4a5d9d5ba4ce2de1728e3bf480350f25e07e21c947d19e3376f09b3c1e161742")
	if got, is := ladder.Shared(a, ladder.Pub(b)); got != want || !is {
		t.Errorf("the one: %x, %t", got, is)
	}
	if got, is := ladder.Shared(b, ladder.Pub(a)); got != want || !is {
		t.Errorf("the other: %x, %t", got, is)
	}
}

// same: two pairs of a secret and a point come to one Shared.
func same(t *testing.T, what string, k, u, l, v limb.Num) {
	t.Helper()
	one, is := ladder.Shared(k, u)
	other, too := ladder.Shared(l, v)
	if one != other || is != too {
		t.Errorf("%s, of %x, %x: %x, %t and %x, %t", what, k, u, one, is, other, too)
	}
	if ladder.X(k, u) != ladder.X(l, v) {
		t.Errorf("%s, X of %x, %x", what, k, u)
	}
}

// P2.4
func TestHighestBitOfPoint(t *testing.T) {
	for _, u := range append(points(), nothing()...) {
		same(t, "the highest bit", full, u, full, flip(u, 255))
	}
}

// P2.4: the bits that Clamp takes do not matter, and those beside them do.
func TestBitsOfSecret(t *testing.T) {
	u := ordinary(5, 1)[0]
	for _, k := range secrets() {
		for _, i := range []int{0, 1, 2, 254, 255} {
			l := flip(k, i)
			same(t, "a bit that Clamp takes", k, u, l, u)
			if ladder.Pub(k) != ladder.Pub(l) {
				t.Errorf("Pub of %x and of bit %d", k, i)
			}
		}
		for _, i := range []int{3, 4, 127, 128, 253} {
			l := flip(k, i)
			if ladder.X(k, u) == ladder.X(l, u) || ladder.Pub(k) == ladder.Pub(l) {
				t.Errorf("bit %d of %x does not matter", i, k)
			}
		}
	}
}

// P2.4: the points that have room for p more are those below 19.
func TestPointAndPMore(t *testing.T) {
	for _, k := range append(ordinary(6, 2), limb.Num{}, full) {
		for i := range int64(19) {
			same(t, "p more", k, limb.Num{byte(i)}, k, power(255, i-19))
			same(t, "p more, and the highest bit", k, limb.Num{byte(i)}, k, power(256, i-19))
		}
	}
}

// R6: arguments stay as they were.
func TestArgumentsStay(t *testing.T) {
	k, u := full, full
	ladder.Clamp(k)
	ladder.X(k, u)
	ladder.Pub(k)
	ladder.Shared(k, u)
	if k != power(256, -1) || u != power(256, -1) {
		t.Errorf("an argument was changed: %x, %x", k, u)
	}
}

func FuzzAsLibrary(f *testing.F) {
	f.Add([]byte{1}, []byte{9})
	f.Add(full[:], full[:])
	f.Add(make([]byte, 32), make([]byte, 32))
	f.Fuzz(func(t *testing.T, l, m []byte) {
		var k, u limb.Num
		copy(k[:], l)
		copy(u[:], m)
		want, is := library(t, k, u)
		if got, ok := ladder.Shared(k, u); got != want || ok != is {
			t.Errorf("Shared(%x, %x): %x, %t, not %x, %t", k, u, got, ok, want, is)
		}
	})
}

func BenchmarkX(b *testing.B) {
	k, u := full, limb.Num{9}
	for b.Loop() {
		u = ladder.X(k, u)
	}
}
