package sha_test

import (
	"bytes"
	"crypto/sha256"
	"encoding/hex"
	"math/big"
	"math/rand"
	"slices"
	"strings"
	"testing"

	"signetring/sha"
)

// ordinary: bytes of no special kind, the same ones at each run.
func ordinary(seed int64, n int) []byte {
	r := rand.New(rand.NewSource(seed))
	b := make([]byte, n)
	for i := range b {
		b[i] = byte(r.Intn(256))
	}
	return b
}

// edges: sizes around which the filling or the number of blocks is another one.
var edges = []int{0, 1, 54, 55, 56, 57, 62, 63, 64, 65, 118, 119, 120, 121, 127, 128, 129, 183, 184, 191, 192, 193}

// P3.1
func TestSumOfKnownTexts(t *testing.T) {
	for _, c := range []struct{ text, digest string }{
		{"abc", "ba7816bf8f01cfea414140de5dae2223b00361a396177a9cb410ff61f20015ad"},
		{"", "e3b0c44298fc1c149afbf4c8996fb92427ae41e4649b934ca495991b7852b855"},
		{"abcdbcdecdefdefgefghfghighijhijkijkljklmklmnlmnomnopnopq", "248d6a61d20638b8e5c026930c3e6039a33ce45964ff2167f6ecedd419db06c1"},
		{strings.Repeat("a", 1000000), "cdc76e5c9914fb9281a1c7e284d73e67f1809a48a497200e046d39ccc7112cd0"},
	} {
		got := sha.Sum([]byte(c.text))
		if hex.EncodeToString(got[:]) != c.digest {
			t.Errorf("Sum of %d bytes = %x, not %s", len(c.text), got, c.digest)
		}
	}
}

// primes: the first n of them.
func primes(n int) []int64 {
	var all []int64
	for p := int64(2); len(all) < n; p++ {
		if !slices.ContainsFunc(all, func(q int64) bool { return p%q == 0 }) {
			all = append(all, p)
		}
	}
	return all
}

// behind: the first 32 bits behind the point of a root of n.
func behind(n, root int64) uint32 {
	bound := new(big.Int).Lsh(big.NewInt(n), uint(32*root))
	found := new(big.Int)
	for bit := 39; bit >= 0; bit-- {
		more := new(big.Int).SetBit(found, bit, 1)
		if new(big.Int).Exp(more, big.NewInt(root), nil).Cmp(bound) <= 0 {
			found = more
		}
	}
	return uint32(found.Uint64())
}

func turn(x uint32, n int) uint32 { return x>>n | x<<(32-n) }

// asWords: the digest as the document's words tell it, with its roots worked out.
func asWords(text []byte) [sha.Size]byte {
	b := append(slices.Clone(text), 128)
	for (len(b)+8)%64 != 0 {
		b = append(b, 0)
	}
	size := len(text) * 8
	for i := range 8 {
		b = append(b, byte(size>>(56-8*i)))
	}
	var s [8]uint32
	for i, p := range primes(8) {
		s[i] = behind(p, 2)
	}
	var k []uint32
	for _, p := range primes(64) {
		k = append(k, behind(p, 3))
	}
	for ; len(b) > 0; b = b[64:] {
		var W [64]uint32
		for i := range 16 {
			W[i] = uint32(b[4*i])<<24 + uint32(b[4*i+1])<<16 + uint32(b[4*i+2])<<8 + uint32(b[4*i+3])
		}
		for i := 16; i < 64; i++ {
			W[i] = (turn(W[i-2], 17) ^ turn(W[i-2], 19) ^ W[i-2]>>10) + W[i-7] + (turn(W[i-15], 7) ^ turn(W[i-15], 18) ^ W[i-15]>>3) + W[i-16]
		}
		a, b, c, d, e, f, g, h := s[0], s[1], s[2], s[3], s[4], s[5], s[6], s[7]
		for i := range 64 {
			t := h + (turn(e, 6) ^ turn(e, 11) ^ turn(e, 25)) + ((e & f) ^ (^e & g)) + k[i] + W[i]
			u := (turn(a, 2) ^ turn(a, 13) ^ turn(a, 22)) + ((a & b) ^ (a & c) ^ (b & c))
			h, g, f, e, d, c, b, a = g, f, e, d+t, c, b, a, t+u
		}
		for i, x := range []uint32{a, b, c, d, e, f, g, h} {
			s[i] += x
		}
	}
	var out [sha.Size]byte
	for i := range out {
		out[i] = byte(s[i/4] >> (24 - i%4*8))
	}
	return out
}

// P3.1
func TestSumAsWords(t *testing.T) {
	for seed, n := range edges {
		b := ordinary(int64(seed), n)
		if got, want := sha.Sum(b), asWords(b); got != want {
			t.Errorf("Sum of %d bytes = %x, not %x", n, got, want)
		}
	}
}

// P3.1
func TestSumOfEachSize(t *testing.T) {
	b, zeros, full := ordinary(1, 1100), make([]byte, 1100), bytes.Repeat([]byte{255}, 1100)
	for n := range len(b) + 1 {
		for _, x := range [][]byte{b[:n], zeros[:n], full[:n]} {
			if sha.Sum(x) != sha256.Sum256(x) {
				t.Fatalf("Sum of %d bytes", n)
			}
		}
	}
}

// P3.1: the filling's own bytes, at the end of a text.
func TestSumOfFilledText(t *testing.T) {
	seen := map[[sha.Size]byte]string{}
	for n := range 70 {
		for _, end := range []string{"", "\x80", "\x80\x00", "\x00"} {
			text := strings.Repeat("s", n) + end
			got := sha.Sum([]byte(text))
			if got != sha256.Sum256([]byte(text)) {
				t.Errorf("Sum(%q)", text)
			}
			if was, ok := seen[got]; ok && was != text {
				t.Errorf("%q and %q have one digest", was, text)
			}
			seen[got] = text
		}
	}
}

// P3.1: each bit of a text counts.
func TestSumOfOtherBit(t *testing.T) {
	b := ordinary(2, 130)
	was := sha.Sum(b)
	for i := range 8 * len(b) {
		b[i/8] ^= 1 << (i % 8)
		if got := sha.Sum(b); got == was || got != sha256.Sum256(b) {
			t.Errorf("bit %d", i)
		}
		b[i/8] ^= 1 << (i % 8)
	}
}

// P3.2
func TestZeroDigest(t *testing.T) {
	var d sha.Digest
	if d.Sum() != sha.Sum(nil) || d.Sum() != sha256.Sum256(nil) {
		t.Error("the zero Digest is not that of no bytes")
	}
	if d.Write([]byte("abc")).Sum() != sha.Sum([]byte("abc")) {
		t.Error("bytes behind no bytes")
	}
}

// P3.2
func TestDigestStays(t *testing.T) {
	b := ordinary(4, 400)
	for _, n := range edges {
		d := sha.Digest{}.Write(b[:n])
		was := d
		for _, more := range edges {
			whole := append(slices.Clone(b[:n]), b[200:200+more]...)
			if d.Write(b[200:200+more]).Sum() != sha256.Sum256(whole) {
				t.Errorf("%d bytes behind %d", more, n)
			}
			if d != was || d.Sum() != sha256.Sum256(b[:n]) {
				t.Errorf("a Write of %d bytes changed the digest of %d", more, n)
			}
		}
	}
}

// P3.2
func TestSumStays(t *testing.T) {
	b := ordinary(5, 400)
	for _, n := range edges {
		d := sha.Digest{}.Write(b[:n])
		one, two := d.Sum(), d.Sum()
		if one != two || one != sha.Sum(b[:n]) {
			t.Errorf("Sum of %d bytes, twice", n)
		}
		if d.Write(b[n:]).Sum() != sha.Sum(b) {
			t.Errorf("bytes behind a Sum of %d", n)
		}
	}
}

// P3.2
func TestDigestsApart(t *testing.T) {
	d := sha.Digest{}.Write(ordinary(6, 100))
	one, two := d.Write([]byte("a")), d.Write([]byte("b"))
	one, two = one.Write([]byte("c")), two.Write([]byte("c"))
	if one.Sum() != sha.Sum(append(ordinary(6, 100), "ac"...)) || two.Sum() != sha.Sum(append(ordinary(6, 100), "bc"...)) {
		t.Error("two digests behind one")
	}
}

// check: bytes in pieces, which are cut at the places.
func check(t *testing.T, b []byte, cuts ...int) {
	t.Helper()
	d, from := sha.Digest{}, 0
	for _, to := range append(cuts, len(b)) {
		d = d.Write(b[from:to])
		from = to
	}
	if d.Sum() != sha256.Sum256(b) || d != (sha.Digest{}).Write(b) {
		t.Errorf("%d bytes, cut at %v", len(b), cuts)
	}
}

// P3.3
func TestTwoPieces(t *testing.T) {
	b := ordinary(7, 260)
	for n := range len(b) + 1 {
		for cut := range n + 1 {
			check(t, b[:n], cut)
		}
	}
}

// P3.3
func TestThreePieces(t *testing.T) {
	b := ordinary(8, 260)
	for _, n := range append(edges, len(b)) {
		for _, one := range edges {
			for _, two := range edges {
				if one <= two && two <= n {
					check(t, b[:n], one, two)
				}
			}
		}
	}
}

// P3.3
func TestManyPieces(t *testing.T) {
	b := ordinary(9, 3000)
	for _, step := range []int{1, 2, 3, 7, 31, 32, 33, 55, 56, 63, 64, 65, 127, 128, 129, 1000} {
		var cuts []int
		for at := step; at < len(b); at += step {
			cuts = append(cuts, at, at)
		}
		check(t, b, cuts...)
	}
	r := rand.New(rand.NewSource(10))
	for range 200 {
		cuts := make([]int, r.Intn(40))
		for i := range cuts {
			cuts[i] = r.Intn(len(b) + 1)
		}
		slices.Sort(cuts)
		check(t, b, cuts...)
	}
}

// P3.3, R8
func TestNoBytes(t *testing.T) {
	if sha.Sum(nil) != sha.Sum([]byte{}) {
		t.Error("Sum of nil and of no bytes")
	}
	for _, n := range edges {
		d := sha.Digest{}.Write(ordinary(11, n))
		if d.Write(nil) != d || d.Write([]byte{}) != d {
			t.Errorf("no bytes behind %d", n)
		}
	}
}

// R6
func TestArgumentsStay(t *testing.T) {
	for _, n := range edges {
		whole := ordinary(12, n+100)
		b, was := whole[:n], slices.Clone(whole)
		d, sum := sha.Digest{}.Write(b), sha.Sum(b)
		twice := d.Write(b)
		d.Sum()
		if !bytes.Equal(whole, was) {
			t.Errorf("%d bytes were changed", n)
		}
		clear(whole)
		if d.Sum() != sum || twice.Sum() != sha.Sum(append(slices.Clone(was[:n]), was[:n]...)) {
			t.Errorf("%d bytes were kept", n)
		}
	}
}

// R4: a slice's place and capacity say nothing.
func TestAnyPlace(t *testing.T) {
	b := ordinary(13, 300)
	for at := range 70 {
		if sha.Sum(b[at:at+150]) != sha.Sum(slices.Clone(b[at:at+150:at+150])) {
			t.Errorf("bytes from %d on", at)
		}
	}
}

func FuzzAsLibrary(f *testing.F) {
	f.Add([]byte("abc"), uint16(1), uint16(2))
	f.Add(ordinary(14, 200), uint16(64), uint16(128))
	f.Fuzz(func(t *testing.T, b []byte, one, two uint16) {
		cuts := []int{int(one) % (len(b) + 1), int(two) % (len(b) + 1)}
		slices.Sort(cuts)
		check(t, b, cuts...)
		if sha.Sum(b) != sha256.Sum256(b) {
			t.Error("Sum")
		}
	})
}

func BenchmarkSum64(b *testing.B)   { benchmark(b, 64) }
func BenchmarkSum4000(b *testing.B) { benchmark(b, 4000) }

func benchmark(b *testing.B, n int) {
	text := ordinary(15, n)
	b.SetBytes(int64(n))
	for b.Loop() {
		sha.Sum(text)
	}
}
