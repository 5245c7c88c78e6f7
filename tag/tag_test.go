package tag_test

import (
	"bytes"
	"encoding/hex"
	"math/big"
	"math/rand"
	"slices"
	"testing"

	"signetring/tag"
)

// ordinary: bytes of no special kind, the same ones at each run.
func ordinary(seed int64, n int) []byte {
	r := rand.New(rand.NewSource(seed))
	b := make([]byte, n)
	for i := range b {
		b[i] = byte(r.Intn(256))
	}
	return b
}

// counted: the bytes from one on.
func counted(from, n int) []byte {
	b := make([]byte, n)
	for i := range b {
		b[i] = byte(from + i)
	}
	return b
}

// full: bytes of 255.
func full(n int) []byte { return bytes.Repeat([]byte{255}, n) }

// sizes: of texts, at the edges of their pieces, and great ones.
var sizes = []int{0, 1, 2, 7, 8, 9, 15, 16, 17, 31, 32, 33, 47, 48, 49, 63, 64, 65, 255, 256, 257, 1000, 4000, 4095, 4096, 4097, 10000}

// power: 2 to the power of n, and more.
func power(n uint, more int64) *big.Int {
	x := new(big.Int).Lsh(big.NewInt(1), n)
	return x.Add(x, big.NewInt(more))
}

// prime, and what is above a tag.
var prime, above = power(130, -5), power(128, 0)

// number: that of bytes, the lowest one first.
func number(b []byte) *big.Int {
	b = slices.Clone(b)
	slices.Reverse(b)
	return new(big.Int).SetBytes(b)
}

// written: a number in 16 bytes, the lowest one first.
func written(n *big.Int) [16]byte {
	var b [16]byte
	n.FillBytes(b[:])
	slices.Reverse(b[:])
	return b
}

// factor: r, of the bits that count, each as the document's words tell it.
func factor(key [32]byte) *big.Int {
	r := new(big.Int)
	for i := range 128 {
		in, value := i/8, 1<<(i%8)
		if (in == 3 || in == 7 || in == 11 || in == 15) && value > 15 {
			continue
		}
		if (in == 4 || in == 8 || in == 12) && value < 4 {
			continue
		}
		r.SetBit(r, i, uint(key[in]>>(i%8)&1))
	}
	return r
}

// asWords: a tag as the document's words tell it.
func asWords(key [32]byte, b []byte) [16]byte {
	r, n := factor(key), new(big.Int)
	for at := 0; at < len(b); at += 16 {
		these := append(slices.Clone(b[at:min(at+16, len(b))]), 1)
		n.Add(n, number(these)).Mul(n, r).Mod(n, prime)
	}
	n.Add(n, number(key[16:]))
	return written(n.Mod(n, above))
}

// keyOf: the key of two halves.
func keyOf(r, s [16]byte) [32]byte { return [32]byte(append(r[:], s[:]...)) }

// someKeys: keys of each kind.
func someKeys() [][32]byte {
	low, high := [16]byte{1}, [16]byte{15: 1}
	all := [16]byte(full(16))
	return [][32]byte{
		{}, [32]byte(full(32)), keyOf(all, [16]byte{}), keyOf([16]byte{}, all),
		keyOf(low, [16]byte{}), keyOf([16]byte{}, low), keyOf(high, [16]byte{}), keyOf([16]byte{}, high), keyOf(low, all), keyOf(high, all),
		[32]byte(counted(0, 32)), [32]byte(counted(1, 32)), [32]byte(ordinary(1, 32)), [32]byte(ordinary(2, 32)),
	}
}

// someTexts: texts of each kind, of so many bytes.
func someTexts(n int) [][]byte {
	return [][]byte{make([]byte, n), full(n), bytes.Repeat([]byte{1}, n), counted(0, n), ordinary(int64(n), n)}
}

// same: Sum has the tag that the document's words tell.
func same(t *testing.T, key [32]byte, b []byte) {
	t.Helper()
	if got, want := tag.Sum(key, b), asWords(key, b); got != want {
		t.Errorf("Sum(%x, %d bytes) = %x, not %x", key, len(b), got, want)
	}
}

// laid: bytes of words in hexadecimal digits.
func laid(t *testing.T, words string) []byte {
	t.Helper()
	b, err := hex.DecodeString(words)
	if err != nil {
		t.Fatal(err)
	}
	return b
}

// P6.1: RFC 8439's, 2.5.2 and A.3.
func TestKnownTags(t *testing.T) {
	const half = "36e5f6b5c5e06070f0efca96227a863e"
	none := "00000000000000000000000000000000"
	one, two := "01"+none[2:], "02"+none[2:]
	all := "ffffffffffffffffffffffffffffffff"
	rule := hex.EncodeToString([]byte("Any submission to the IETF intended by the Contributor for publication as all or part of an IETF Internet-Draft or RFC and any statement made within the context of an IETF activity is considered an \"IETF Contribution\". Such statements include oral statements in IETF sessions, as well as written and electronic communications made at any time or place, which are addressed to"))
	verse := hex.EncodeToString([]byte("'Twas brillig, and the slithy toves\nDid gyre and gimble in the wabe:\nAll mimsy were the borogoves,\nAnd the mome raths outgrabe."))
	long := "e33594d7505e43b900000000000000003394d7505e4379cd0100000000000000" + none
	for _, c := range []struct{ key, text, tag string }{
		{"85d6be7857556d337f4452fe42d506a80103808afb0db2fd4abff6af4149f51b", hex.EncodeToString([]byte("Cryptographic Forum Research Group")), "a8061dc1305136c6c22b8baf0c0127a9"},
		{none + none, none + none + none + none, none},
		{none + half, rule, half},
		{half + none, rule, "f3477e7cd95417af89a6b8794c310cf0"},
		{"1c9240a5eb55d38af333888604f6b5f0473917c1402b80099dca5cbc207075c0", verse, "4541669a7eaaee61e708dc7cbcc5eb62"},
		{two + none, all, "03" + none[2:]},
		{two + all, two, "03" + none[2:]},
		{one + none, all + "f0" + all[2:] + "11" + none[2:], "05" + none[2:]},
		{one + none, all + "fbfefefefefefefefefefefefefefefe" + "01010101010101010101010101010101", none},
		{two + none, "fd" + all[2:], "fa" + all[2:]},
		{"01000000000000000400000000000000" + none, long + one, "14000000000000005500000000000000"},
		{"01000000000000000400000000000000" + none, long, "13" + none[2:]},
	} {
		got := tag.Sum([32]byte(laid(t, c.key)), laid(t, c.text))
		if hex.EncodeToString(got[:]) != c.tag {
			t.Errorf("Sum(%s, %s) = %x, not %s", c.key, c.text, got, c.tag)
		}
	}
}

// P6.1: as OpenSSL has them, at the edges of pieces.
func TestOtherKnownTags(t *testing.T) {
	for n, want := range map[int][2]string{
		0:    {"1112131415161718191a1b1c1d1e1f20", "ffffffffffffffffffffffffffffffff"},
		1:    {"11131517191a1d1f21222527292a2d2f", "23feffef23f8ffef23f8ffef23f8ffef"},
		15:   {"24818688e6ac1d8a5180582b58eb3ea7", "fbff27e6030028e6030028e6030028ee"},
		16:   {"4778d0d354efb2200b0e390d5dc452b5", "fbffff17faffff17faffff17faffff17"},
		17:   {"9b1a21c65068fd8a47fb542aa1a32fd7", "7cfe7ff768f81f2763f8bf565df85f86"},
		31:   {"a54d27ac5aebad75af341379c2eaa695", "5400a8ed4800481d4300e84c3d008884"},
		32:   {"f080c14741bae3ac319fe44be0f0bbb3", "5400801f3f00204f3900c07e330060ae"},
		33:   {"3426ed129624d52b01de60755d3b919e", "86fa6a437bf4ec24a274504dc37495bc"},
		63:   {"d89022dbe17be7682f678271bbd5d5f0", "900f0bfaca5fd0a5c6a817b3d1e3a687"},
		64:   {"733c5d17b9635ee1428b35260b36ed2e", "900fe32bc15fa8d7bca8efe4c7e37eb1"},
		65:   {"344a8683ce972699d3629b32c12987d6", "e4d8b131f296fa0723796121694ffa18"},
		4000: {"112027d083d662f92f394aa07b5a6823", "5208aff2e6cf228693aa97e8651186bf"},
		5000: {"71d26a22e0d1b57578451bc439868d33", "e3bb2a8e5c68d2cc3af6dc8f0316fd53"},
	} {
		one := tag.Sum([32]byte(counted(1, 32)), counted(0, n))
		two := tag.Sum([32]byte(full(32)), full(n))
		if got := [2]string{hex.EncodeToString(one[:]), hex.EncodeToString(two[:])}; got != want {
			t.Errorf("%d bytes: %s, not %s", n, got, want)
		}
	}
}

// P6.1
func TestSumAsWords(t *testing.T) {
	for _, key := range someKeys() {
		for _, n := range sizes {
			for _, b := range someTexts(n) {
				same(t, key, b)
			}
		}
	}
	for n := range 200 {
		for i := range int64(20) {
			same(t, [32]byte(ordinary(1000*i+int64(n), 32)), ordinary(i, n))
		}
	}
}

// P6.1: no bytes have s for a tag, nil ones, too (R8).
func TestSumOfNoBytes(t *testing.T) {
	for _, key := range someKeys() {
		for _, b := range [][]byte{nil, {}, make([]byte, 0, 100)} {
			if got := tag.Sum(key, b); got != [16]byte(key[16:]) {
				t.Errorf("by %x: %x", key, got)
			}
		}
	}
}

// P6.1: each bit of the key alone, and each bit alone that is not set.
func TestSumByEachBit(t *testing.T) {
	for i := range 256 {
		for _, key := range [][32]byte{{}, [32]byte(full(32)), [32]byte(ordinary(3, 32))} {
			key[i/8] ^= 1 << (i % 8)
			for _, n := range []int{0, 1, 15, 16, 17, 32, 33, 100} {
				same(t, key, ordinary(4, n))
				same(t, key, full(n))
			}
		}
	}
}

// P6.1: 22 bits of r do not count, and each other bit of the key does.
func TestBitsThatDoNotCount(t *testing.T) {
	left := map[int]bool{}
	for _, in := range []int{3, 7, 11, 15} {
		for bit := 4; bit < 8; bit++ {
			left[8*in+bit] = true
		}
	}
	for _, in := range []int{4, 8, 12} {
		left[8*in], left[8*in+1] = true, true
	}
	for _, b := range [][]byte{{1}, ordinary(5, 16), ordinary(6, 100)} {
		for _, key := range someKeys() {
			was := tag.Sum(key, b)
			for i := range 256 {
				other := key
				other[i/8] ^= 1 << (i % 8)
				if got := tag.Sum(other, b); (got == was) != left[i] {
					t.Errorf("bit %d of %x, %d bytes: %x and %x", i, key, len(b), was, got)
				}
			}
		}
	}
}

// P6.1: each place of a text counts, and so do bytes 0 at its end.
func TestEachByteCounts(t *testing.T) {
	key, b := [32]byte(ordinary(7, 32)), ordinary(8, 70)
	seen := map[[16]byte]string{tag.Sum(key, b): "as it was"}
	for i := range b {
		for bit := range 8 {
			other := slices.Clone(b)
			other[i] ^= 1 << bit
			got := tag.Sum(key, other)
			if was, ok := seen[got]; ok {
				t.Errorf("bit %d of byte %d: the tag of the text %s", bit, i, was)
			}
			seen[got] = "with another bit"
			same(t, key, other)
		}
	}
	clear(seen)
	for n := range 100 {
		got := tag.Sum(key, make([]byte, n))
		if was, ok := seen[got]; ok {
			t.Errorf("%d bytes 0: the tag of %s", n, was)
		}
		seen[got] = "fewer"
	}
}

// pieces: a text of whole pieces, whose numbers without their bytes 1 are these.
func pieces(numbers ...*big.Int) []byte {
	var b []byte
	for _, n := range numbers {
		w := written(n)
		b = append(b, w[:]...)
	}
	return b
}

// plus: the tag of a number and s.
func plus(n *big.Int, s [16]byte) [16]byte {
	sum := new(big.Int).Add(n, number(s[:]))
	return written(sum.Mod(sum, above))
}

// someEnds: other halves of keys, with which numbers below p go beyond 2^128, or do not.
func someEnds() [][16]byte {
	return [][16]byte{{}, {1}, {5}, {251}, {15: 128}, {15: 255}, written(power(128, -2)), [16]byte(full(16)), [16]byte(ordinary(9, 16))}
}

// P6.1: by r = 1 a text's number is the sum of its pieces, and here that comes near p.
func TestSumNearPrime(t *testing.T) {
	for more := int64(-40); more <= 40; more++ {
		sum := new(big.Int).Add(prime, big.NewInt(more))
		// The bytes 1 behind three pieces are 3 2^128 of it.
		whole := new(big.Int).Sub(sum, new(big.Int).Mul(big.NewInt(3), above))
		half := new(big.Int).Rsh(whole, 1)
		b := pieces(half, whole.Sub(whole, half), new(big.Int))
		for _, s := range someEnds() {
			key := keyOf([16]byte{1}, s)
			if got, want := tag.Sum(key, b), plus(new(big.Int).Mod(sum, prime), s); got != want {
				t.Errorf("p + %d and %x: %x, not %x", more, s, got, want)
			}
			for _, rest := range [][]byte{{0}, {255}, full(15), make([]byte, 16), full(16), full(64)} {
				same(t, key, append(slices.Clone(b), rest...))
			}
		}
	}
}

// reaching: a text of some pieces whose number, modulo p, is n.
func reaching(t *testing.T, r *rand.Rand, key [32]byte, n *big.Int) []byte {
	by := factor(key)
	sum := new(big.Int).ModInverse(by, prime)
	sum.Mul(sum, n)
	for range 10000 {
		b, ahead := []byte{}, new(big.Int)
		for range 1 + r.Intn(3) {
			these := ordinary(r.Int63(), 16)
			b = append(b, these...)
			ahead.Add(ahead, number(append(these, 1))).Mul(ahead, by).Mod(ahead, prime)
		}
		// Of the numbers below p about one in four is that of a piece, with its byte 1.
		last := ahead.Sub(sum, ahead).Mod(ahead, prime)
		if last.Sub(last, above); last.Sign() >= 0 && last.Cmp(above) < 0 {
			return append(b, pieces(last)...)
		}
	}
	t.Fatalf("no text comes to %x by %x", n, by)
	return nil
}

// P6.1: numbers at the edges, come to by any r; with s the tag goes beyond 2^128, or it does not.
func TestSumAtTheEdges(t *testing.T) {
	r := rand.New(rand.NewSource(10))
	for more := int64(-9); more <= 9; more++ {
		for _, n := range []*big.Int{power(0, more), power(64, more), power(127, more), power(128, more), power(129, more), power(130, more)} {
			n.Mod(n, prime)
			for _, half := range [][]byte{{1, 15: 0}, {2, 15: 0}, full(16), ordinary(11, 16), ordinary(r.Int63(), 16)} {
				key := [32]byte(append(half, make([]byte, 16)...))
				b := reaching(t, r, key, n)
				for _, s := range someEnds() {
					copy(key[16:], s[:])
					if got, want := tag.Sum(key, b), plus(n, s); got != want {
						t.Errorf("%x and %x by %x: %x, not %x", n, s, half, got, want)
					}
					same(t, key, b)
				}
			}
		}
	}
}

// P6.1: some thousands of bytes, all by the greatest r, so that all numbers on the way are great, too.
func TestSumOfGreatTexts(t *testing.T) {
	for _, key := range someKeys() {
		for _, n := range []int{2999, 3000, 4000, 4001, 65536, 100000} {
			same(t, key, full(n))
			same(t, key, ordinary(12, n))
		}
	}
}

// P6.2
func TestEqual(t *testing.T) {
	for _, n := range sizes {
		for _, a := range someTexts(n) {
			if !tag.Equal(a, a) || !tag.Equal(a, slices.Clone(a)) {
				t.Errorf("%d bytes are not the same as themselves", n)
			}
		}
	}
	for n := range 40 {
		for _, a := range someTexts(n) {
			for _, b := range someTexts(n) {
				if got := tag.Equal(a, b); got != bytes.Equal(a, b) {
					t.Errorf("Equal(%x, %x) = %v", a, b, got)
				}
			}
		}
	}
}

// P6.2: one bit, anywhere.
func TestEqualOfOtherBit(t *testing.T) {
	for _, n := range []int{1, 2, 15, 16, 17, 32, 33, 257} {
		for _, a := range someTexts(n) {
			for i := range 8 * n {
				b := slices.Clone(a)
				b[i/8] ^= 1 << (i % 8)
				if tag.Equal(a, b) || tag.Equal(b, a) {
					t.Errorf("%d bytes, and others at bit %d", n, i)
				}
			}
		}
	}
}

// P6.2: bits that differ at several places do not make up for each other.
func TestEqualOfOtherBits(t *testing.T) {
	for _, a := range someTexts(16) {
		for i := range a {
			for k := range i {
				b := slices.Clone(a)
				b[i], b[k] = b[i]^128, b[k]^128
				c := slices.Clone(a)
				c[i], c[k] = c[i]+1, c[k]-1
				if tag.Equal(a, b) || tag.Equal(a, c) {
					t.Errorf("%x and others at %d and %d", a, i, k)
				}
			}
		}
	}
}

// P6.2: of other lengths, even if the one begins, or ends, as the other is.
func TestEqualOfOtherLength(t *testing.T) {
	for _, n := range []int{1, 2, 15, 16, 17, 32, 300} {
		for _, a := range someTexts(n) {
			for i := range n {
				for _, b := range [][]byte{a[:i], a[n-i:], slices.Clone(a[:i])} {
					if tag.Equal(a, b) || tag.Equal(b, a) {
						t.Errorf("%d bytes, and %d of them", n, i)
					}
				}
			}
		}
	}
	for n := range 300 {
		if n > 0 && (tag.Equal(nil, make([]byte, n)) || tag.Equal(make([]byte, n), nil) || tag.Equal([]byte{}, make([]byte, n)) || tag.Equal(make([]byte, n), []byte{})) {
			t.Errorf("no bytes, and %d bytes 0", n)
		}
	}
}

// P6.2, R8
func TestEqualOfNoBytes(t *testing.T) {
	none := [][]byte{nil, {}, make([]byte, 0, 100), full(2)[:0]}
	for i, a := range none {
		for k, b := range none {
			if !tag.Equal(a, b) {
				t.Errorf("%d and %d", i, k)
			}
		}
	}
}

// apart: by how much two tags differ.
func apart(one, two [16]byte) [16]byte {
	n := new(big.Int).Sub(number(one[:]), number(two[:]))
	return written(n.Mod(n, above))
}

// P6.3
func TestTogether(t *testing.T) {
	for i, key := range someKeys() {
		for _, n := range []int{0, 1, 15, 16, 17, 33, 100} {
			a, b := ordinary(int64(i), n), ordinary(int64(n), 3*i)
			for _, s := range someEnds() {
				for _, other := range someEnds() {
					one, two := keyOf([16]byte(key[:16]), s), keyOf([16]byte(key[:16]), other)
					if got, want := apart(tag.Sum(one, a), tag.Sum(one, b)), apart(tag.Sum(two, a), tag.Sum(two, b)); got != want {
						t.Errorf("%x and %x by %x and %x: %x and %x", a, b, one, two, got, want)
					}
					if got := apart(tag.Sum(one, a), tag.Sum(two, a)); got != apart(s, other) {
						t.Errorf("%x by %x and %x: %x", a, one, two, got)
					}
				}
			}
		}
	}
}

// R6: what lies behind an argument's end stays, too.
func TestArgumentsStay(t *testing.T) {
	for _, n := range sizes {
		all, key := ordinary(13, n+100), [32]byte(ordinary(14, 32))
		one, two := tag.Sum(key, all[:n]), tag.Sum(key, all[:n:n])
		tag.Equal(all[:n], all[100:])
		tag.Equal(all[:n], all)
		if !bytes.Equal(all, ordinary(13, n+100)) || key != [32]byte(ordinary(14, 32)) {
			t.Errorf("%d bytes were changed", n)
		}
		if one != two {
			t.Errorf("%d bytes, with and without room behind them: %x and %x", n, one, two)
		}
	}
}

// R4: calls ahead of a call say nothing.
func TestAnyOrder(t *testing.T) {
	key, b := [32]byte(ordinary(15, 32)), ordinary(16, 100)
	was := tag.Sum(key, b)
	for _, n := range sizes {
		tag.Sum([32]byte(full(32)), full(n))
		tag.Equal(b, full(n))
		if got := tag.Sum(key, b); got != was {
			t.Errorf("behind %d bytes: %x, not %x", n, got, was)
		}
		if !tag.Equal(b, ordinary(16, 100)) {
			t.Errorf("behind %d bytes a text is not the same as itself", n)
		}
	}
}

func FuzzAsWords(f *testing.F) {
	f.Add([]byte{}, []byte{}, []byte{})
	f.Add(counted(1, 32), []byte("text"), []byte("text"))
	f.Add(full(32), full(33), full(32))
	f.Add(ordinary(17, 32), ordinary(18, 100), ordinary(19, 100))
	f.Fuzz(func(t *testing.T, k, a, b []byte) {
		var key [32]byte
		copy(key[:], k)
		one, two := tag.Sum(key, a), tag.Sum(key, b)
		if one != asWords(key, a) || two != asWords(key, b) {
			t.Error("Sum")
		}
		other := key
		for i := range 16 {
			other[16+i] ^= byte(i + len(a))
		}
		if apart(one, two) != apart(tag.Sum(other, a), tag.Sum(other, b)) {
			t.Error("together")
		}
		if tag.Equal(a, b) != bytes.Equal(a, b) || !tag.Equal(a, slices.Clone(a)) {
			t.Error("Equal")
		}
	})
}

func BenchmarkSum4000(b *testing.B) {
	key, text := [32]byte(ordinary(20, 32)), ordinary(21, 4000)
	b.SetBytes(int64(len(text)))
	for b.Loop() {
		tag.Sum(key, text)
	}
}

func BenchmarkEqual(b *testing.B) {
	one, two := ordinary(22, 16), ordinary(22, 16)
	for b.Loop() {
		tag.Equal(one, two)
	}
}
