package mac_test

import (
	"bytes"
	"crypto/hkdf"
	"crypto/hmac"
	"crypto/sha256"
	"encoding/hex"
	"math"
	"math/rand"
	"slices"
	"strings"
	"testing"

	"signetring/api"
	"signetring/mac"
	"signetring/sha"
)

// ordinary: bytes of no special kind, the same ones at each run.
func ordinary(seed int64, n int) []byte {
	r := rand.New(rand.NewSource(seed))
	b := make([]byte, n)
	for i := range b {
		b[i] = byte(r.Intn(256))
	}
	return b
}

// keySizes: sizes around which a key is filled up, or its digest is taken.
var keySizes = []int{0, 1, 2, 31, 32, 33, 62, 63, 64, 65, 66, 127, 128, 129, 200, 1000}

// textSizes: sizes around which the digest has another number of blocks.
var textSizes = []int{0, 1, 31, 32, 33, 54, 55, 56, 57, 63, 64, 65, 119, 120, 127, 128, 129, 500}

// sizes: how many bytes an Expand has, from the least to the most.
var sizes = []int{0, 1, 2, 31, 32, 33, 63, 64, 65, 95, 96, 97, 100, 1000, 4095, 4096, 4097, 8127, 8128, 8129, 8158, 8159, 8160}

// wrong: how many bytes no Expand has.
var wrong = []int{-1, -2, -31, -32, -33, -8160, 8161, 8162, 8191, 8192, 8193, 16320, 65536, math.MaxInt32, math.MaxInt, math.MinInt32, math.MinInt}

// asWords: HMAC as the document's words tell it.
func asWords(key, b []byte) [32]byte {
	k := slices.Clone(key)
	if len(k) > 64 {
		d := sha256.Sum256(key)
		k = d[:]
	}
	for len(k) < 64 {
		k = append(k, 0)
	}
	var out, in []byte
	for _, x := range k {
		out, in = append(out, x^92), append(in, x^54)
	}
	d := sha256.Sum256(append(in, b...))
	return sha256.Sum256(append(out, d[:]...))
}

// asWordsExpanded: all bytes that an Expand can have, as the document's words tell them.
func asWordsExpanded(key [32]byte, info []byte) []byte {
	t := asWords(key[:], append(slices.Clone(info), 1))
	all := t[:]
	for i := 2; i <= 255; i++ {
		text := append(slices.Clone(all[len(all)-32:]), info...)
		t := asWords(key[:], append(text, byte(i)))
		all = append(all, t[:]...)
	}
	return all
}

// infos: some of each kind, none among them.
func infos() [][]byte {
	return [][]byte{nil, {}, {0}, {1}, []byte("info"), ordinary(1, 31), ordinary(2, 32), ordinary(3, 64), ordinary(4, 300)}
}

// someKeys: keys that an Expand or Keys is given.
func someKeys() [][32]byte {
	return [][32]byte{{}, {1}, {31: 1}, [32]byte(bytes.Repeat([]byte{255}, 32)), [32]byte(ordinary(5, 32))}
}

func unhex(t *testing.T, s string) []byte {
	t.Helper()
	b, err := hex.DecodeString(s)
	if err != nil {
		t.Fatal(err)
	}
	return b
}

// counted: the bytes from one to another, and both of these.
func counted(from, to int) []byte {
	var b []byte
	for i := from; i <= to; i++ {
		b = append(b, byte(i))
	}
	return b
}

// P4.1: RFC 4231's.
func TestSumOfKnownTexts(t *testing.T) {
	for _, c := range []struct {
		key  []byte
		text string
		sum  string
	}{
		{[]byte("Jefe"), "what do ya want for nothing?", "5bdcc146bf60754e6a042426089575c75a003f089d2739839dec58b964ec3843"},
		{bytes.Repeat([]byte{0x0b}, 20), "Hi There", "b0344c61d8db38535ca8afceaf0bf12b881dc200c9833da726e9376c2e32cff7"},
		{bytes.Repeat([]byte{0xaa}, 20), strings.Repeat("\xdd", 50), "773ea91e36800e46854db8ebd09181a72959098b3ef8c122d9635514ced565fe"},
		{counted(1, 25), strings.Repeat("\xcd", 50), "82558a389a443c0ea4cc819899f2083a85f0faa3e578f8077a2e3ff46729665b"},
		{bytes.Repeat([]byte{0xaa}, 131), "Test Using Larger Than Block-Size Key - Hash Key First", "60e431591ee0b67f0d8a26aacbf5b77f8e0bc6213728c5140546040f0ee37f54"},
		{bytes.Repeat([]byte{0xaa}, 131), "This is a test using a larger than block-size key and a larger than block-size data. The key needs to be hashed before being used by the HMAC algorithm.", "9b09ffa71b942fcb27635fbcd5b0e944bfdc63644f0713938a7f51535c3a35e2"},
	} {
		got := mac.Sum(c.key, []byte(c.text))
		if hex.EncodeToString(got[:]) != c.sum {
			t.Errorf("Sum(%x, %q) = %x, not %s", c.key, c.text, got, c.sum)
		}
	}
}

// P4.1, P4.2: Extract is the same of a salt.
func TestSumAsWords(t *testing.T) {
	key, text := ordinary(6, 1000), ordinary(7, 500)
	for _, k := range keySizes {
		for _, n := range textSizes {
			want := asWords(key[:k], text[:n])
			h := hmac.New(sha256.New, key[:k])
			h.Write(text[:n])
			if !bytes.Equal(h.Sum(nil), want[:]) {
				t.Fatalf("the library's, of %d and %d", k, n)
			}
			if got := mac.Sum(key[:k], text[:n]); got != want {
				t.Errorf("Sum of %d and %d = %x, not %x", k, n, got, want)
			}
			if got := mac.Extract(key[:k], text[:n]); got != want {
				t.Errorf("Extract of %d and %d = %x, not %x", k, n, got, want)
			}
		}
	}
}

// P4.1: the key of each size, and with each byte.
func TestSumOfEachKey(t *testing.T) {
	key, text := ordinary(8, 140), []byte("text")
	for k := range len(key) + 1 {
		if mac.Sum(key[:k], text) != asWords(key[:k], text) {
			t.Errorf("a key of %d bytes", k)
		}
	}
	for x := range 256 {
		one := []byte{byte(x)}
		if mac.Sum(one, text) != asWords(one, text) || mac.Sum(text, one) != asWords(text, one) {
			t.Errorf("a byte %d", x)
		}
	}
}

// P4.1: bytes 0 behind a key of fewer than 64 bytes are what it is filled up with; behind one of 64 they are not.
func TestSumOfFilledKey(t *testing.T) {
	text := []byte("what do ya want for nothing?")
	for _, n := range []int{0, 1, 4, 32, 62, 63, 64, 65} {
		key := bytes.Repeat([]byte{7}, n)
		was := mac.Sum(key, text)
		for zeros := 1; zeros < 80; zeros++ {
			got := mac.Sum(append(slices.Clone(key), make([]byte, zeros)...), text)
			if same := n+zeros <= 64; same != (got == was) {
				t.Errorf("a key of %d bytes, and %d bytes 0", n, zeros)
			}
		}
		if n > 0 && n < 64 && mac.Sum(append([]byte{0}, key...), text) == was {
			t.Errorf("a byte 0 ahead of a key of %d", n)
		}
	}
}

// P4.1: a key of more than 64 bytes counts as its digest; one of 64 does not.
func TestSumOfLongKey(t *testing.T) {
	text := []byte("text")
	for _, n := range []int{0, 1, 32, 63, 64, 65, 66, 100, 128, 1000} {
		key := ordinary(int64(n), n)
		digest := sha.Sum(key)
		if long := n > 64; long != (mac.Sum(key, text) == mac.Sum(digest[:], text)) {
			t.Errorf("a key of %d bytes, and its digest", n)
		}
	}
}

// P4.1: each bit of the key and of the text counts, and where the one ends and the other begins.
func TestSumOfOtherBit(t *testing.T) {
	for _, n := range []int{1, 63, 64, 65} {
		key, text := ordinary(9, n), ordinary(10, 70)
		was := mac.Sum(key, text)
		for _, b := range [][]byte{key, text} {
			for i := range 8 * len(b) {
				b[i/8] ^= 1 << (i % 8)
				if mac.Sum(key, text) == was {
					t.Errorf("bit %d of %d bytes", i, len(b))
				}
				b[i/8] ^= 1 << (i % 8)
			}
		}
		if mac.Sum(text, key) == was || mac.Sum(key[:n-1], append([]byte{key[n-1]}, text...)) == was {
			t.Errorf("a key of %d bytes and a text, as others", n)
		}
	}
}

// P4.2: RFC 5869's.
func TestKnownExpansions(t *testing.T) {
	for _, c := range []struct {
		b, salt, info []byte
		key, bytes    string
	}{
		{bytes.Repeat([]byte{0x0b}, 22), counted(0, 12), counted(0xf0, 0xf9),
			"077709362c2e32df0ddc3f0dc47bba6390b6c73bb50f9c3122ec844ad7c2b3e5",
			"3cb25f25faacd57a90434f64d0362f2a2d2d0a90cf1a5a4c5db02d56ecc4c5bf34007208d5b887185865"},
		{counted(0, 0x4f), counted(0x60, 0xaf), counted(0xb0, 0xff),
			"06a6b88c5853361a06104c9ceb35b45cef760014904671014a193f40c15fc244",
			"b11e398dc80327a1c8e7f78c596a49344f012eda2d4efad8a050cc4c19afa97c59045a99cac7827271cb41c65e590e09da3275600c2f09b8367793a9aca3db71cc30c58179ec3e87c14c01d5c1f3434f1d87"},
		{bytes.Repeat([]byte{0x0b}, 22), nil, nil,
			"19ef24a32c717b167f33a91d6f648bdf96596776afdb6377ac434c1c293ccb04",
			"8da4e775a563c18f715f802a063c5a31b8a11f5c5ee1879ec3454e5f3c738d2d9d201395faa4b61a96c8"},
	} {
		key := mac.Extract(c.salt, c.b)
		if hex.EncodeToString(key[:]) != c.key {
			t.Errorf("Extract(%x, %x) = %x, not %s", c.salt, c.b, key, c.key)
		}
		want := unhex(t, c.bytes)
		got, e := mac.Expand(key, c.info, len(want))
		if e != api.OK || !bytes.Equal(got, want) {
			t.Errorf("Expand(%x, %x, %d) = %x, %d, not %x", key, c.info, len(want), got, e, want)
		}
	}
}

// P4.2
func TestExtractWithoutSalt(t *testing.T) {
	for _, n := range textSizes {
		b := ordinary(11, n)
		want := asWords(nil, b)
		for _, salt := range [][]byte{nil, {}, {0}, make([]byte, 32), make([]byte, 64)} {
			if mac.Extract(salt, b) != want {
				t.Errorf("a salt of %d bytes 0, and %d bytes", len(salt), n)
			}
		}
		if mac.Extract(make([]byte, 65), b) == want || mac.Extract([]byte{1}, b) == want {
			t.Errorf("another salt, and %d bytes", n)
		}
	}
	if mac.Extract([]byte("a"), []byte("b")) == mac.Extract([]byte("b"), []byte("a")) {
		t.Error("a salt and bytes, as others")
	}
}

// P4.2, P4.4
func TestExpandAsWords(t *testing.T) {
	for _, key := range someKeys() {
		for _, info := range infos() {
			all := asWordsExpanded(key, info)
			for _, n := range sizes {
				got, e := mac.Expand(key, info, n)
				if e != api.OK || !bytes.Equal(got, all[:n]) {
					t.Errorf("Expand(%x, %x, %d): %d bytes, %d", key, info, n, len(got), e)
				}
			}
		}
	}
}

// P4.2
func TestExpandAsLibrary(t *testing.T) {
	for _, key := range someKeys() {
		for _, info := range infos() {
			want, err := hkdf.Expand(sha256.New, key[:], string(info), 8160)
			if err != nil {
				t.Fatal(err)
			}
			if got, e := mac.Expand(key, info, 8160); e != api.OK || !bytes.Equal(got, want) {
				t.Errorf("Expand(%x, %x, 8160): %d bytes, %d", key, info, len(got), e)
			}
		}
	}
}

// P4.2, P4.4: each small size, and many greater ones.
func TestExpandOfManySizes(t *testing.T) {
	key, info := [32]byte(ordinary(12, 32)), []byte("info")
	all := asWordsExpanded(key, info)
	for n := 0; n <= 8160; n += 1 + n/1024*6 {
		if got, e := mac.Expand(key, info, n); e != api.OK || !bytes.Equal(got, all[:n]) {
			t.Fatalf("Expand to %d: %d bytes, %d", n, len(got), e)
		}
	}
}

// P4.2, R3
func TestExpandOfWrongSize(t *testing.T) {
	for _, info := range infos() {
		for _, n := range wrong {
			if got, e := mac.Expand([32]byte{1}, info, n); e != api.ErrArg || len(got) != 0 {
				t.Errorf("Expand to %d: %d bytes, %d", n, len(got), e)
			}
		}
	}
}

// P4.2: each bit of the key and of the info counts.
func TestExpandOfOtherBit(t *testing.T) {
	key, info := [32]byte(ordinary(13, 32)), ordinary(14, 40)
	was, _ := mac.Expand(key, info, 32)
	for _, b := range [][]byte{key[:], info} {
		for i := range 8 * len(b) {
			b[i/8] ^= 1 << (i % 8)
			if got, e := mac.Expand(key, info, 32); e != api.OK || bytes.Equal(got, was) {
				t.Errorf("bit %d of %d bytes", i, len(b))
			}
			b[i/8] ^= 1 << (i % 8)
		}
	}
}

// P4.3, P4.4
func TestKeys(t *testing.T) {
	for _, key := range someKeys() {
		for _, size := range textSizes {
			b := ordinary(15, size)
			all := asWordsExpanded(asWords(key[:], b), nil)
			for n := 1; n <= 3; n++ {
				got, e := mac.Keys(key, b, n)
				if e != api.OK || len(got) != n {
					t.Fatalf("Keys(%x, %x, %d): %d keys, %d", key, b, n, len(got), e)
				}
				for i, k := range got {
					if k != [32]byte(all[32*i:]) {
						t.Errorf("Keys(%x, %x, %d): number %d is %x", key, b, n, i, k)
					}
				}
			}
		}
	}
}

// P4.3: a chaining key as Noise makes it, step by step.
func TestKeysAsNoise(t *testing.T) {
	key, b := [32]byte(ordinary(16, 32)), ordinary(17, 32)
	temp := mac.Sum(key[:], b)
	one := mac.Sum(temp[:], []byte{1})
	two := mac.Sum(temp[:], append(one[:], 2))
	three := mac.Sum(temp[:], append(two[:], 3))
	got, e := mac.Keys(key, b, 3)
	if e != api.OK || !slices.Equal(got, [][32]byte{one, two, three}) {
		t.Errorf("%x, %d", got, e)
	}
}

// P4.3, R3
func TestKeysOfWrongNumber(t *testing.T) {
	for _, b := range infos() {
		for _, n := range []int{0, 4, 5, 32, 64, 96, 255, 256, 257, -1, -2, -3, math.MaxInt32, math.MaxInt, math.MinInt32, math.MinInt, math.MinInt + 1, math.MinInt + 3} {
			if got, e := mac.Keys([32]byte{1}, b, n); e != api.ErrArg || len(got) != 0 {
				t.Errorf("Keys of %d: %d keys, %d", n, len(got), e)
			}
		}
	}
}

// P4.3: the key and the bytes each have their place, and no two keys are alike.
func TestKeysApart(t *testing.T) {
	one, two := [32]byte(ordinary(18, 32)), [32]byte(ordinary(19, 32))
	seen := map[[32]byte]int{}
	for i, c := range []struct {
		key [32]byte
		b   []byte
	}{{one, two[:]}, {two, one[:]}, {one, nil}, {two, nil}, {one, two[:31]}, {one, []byte{0}}, {one, []byte{1}}} {
		keys, _ := mac.Keys(c.key, c.b, 3)
		for _, k := range keys {
			if was, ok := seen[k]; ok {
				t.Errorf("one key of %d and of %d", was, i)
			}
			seen[k] = i
		}
	}
	if len(seen) != 21 {
		t.Errorf("%d keys", len(seen))
	}
}

// P4.4
func TestBeginnings(t *testing.T) {
	key, info := [32]byte(ordinary(20, 32)), ordinary(21, 50)
	for _, n := range sizes {
		more, _ := mac.Expand(key, info, n)
		for _, m := range sizes {
			fewer, _ := mac.Expand(key, info, m)
			if m <= n && !bytes.Equal(fewer, more[:m]) {
				t.Errorf("%d bytes are no beginning of %d", m, n)
			}
		}
	}
	for n := 1; n <= 3; n++ {
		more, _ := mac.Keys(key, info, n)
		for m := 1; m <= n; m++ {
			if fewer, _ := mac.Keys(key, info, m); len(more) != n || !slices.Equal(fewer, more[:m]) {
				t.Errorf("%d keys are no beginning of %d", m, n)
			}
		}
	}
}

// R8
func TestNoBytes(t *testing.T) {
	if mac.Sum(nil, nil) != mac.Sum([]byte{}, []byte{}) || mac.Sum(nil, nil) != asWords(nil, nil) {
		t.Error("Sum")
	}
	if mac.Extract(nil, nil) != mac.Extract([]byte{}, []byte{}) || mac.Extract(nil, nil) != asWords(nil, nil) {
		t.Error("Extract")
	}
	for _, n := range sizes {
		one, e := mac.Expand([32]byte{1}, nil, n)
		two, f := mac.Expand([32]byte{1}, []byte{}, n)
		if e != api.OK || f != api.OK || !bytes.Equal(one, two) {
			t.Errorf("Expand to %d", n)
		}
	}
	for n := 1; n <= 3; n++ {
		one, e := mac.Keys([32]byte{1}, nil, n)
		two, f := mac.Keys([32]byte{1}, []byte{}, n)
		if e != api.OK || f != api.OK || !slices.Equal(one, two) {
			t.Errorf("Keys of %d", n)
		}
	}
}

// R6: what lies behind an argument's end stays too.
func TestArgumentsStay(t *testing.T) {
	for _, k := range keySizes {
		for _, n := range textSizes {
			one, two := ordinary(22, k+100), ordinary(23, n+100)
			key, b := one[:k], two[:n]
			fixed := [32]byte(one)
			sum := mac.Sum(key, b)
			mac.Extract(key, b)
			for _, size := range []int{-1, 0, 33, 100, 8161} {
				mac.Expand(fixed, b, size)
			}
			for size := range 5 {
				mac.Keys(fixed, b, size)
			}
			if !bytes.Equal(one, ordinary(22, k+100)) || !bytes.Equal(two, ordinary(23, n+100)) || fixed != [32]byte(one) {
				t.Fatalf("a key of %d bytes and %d bytes were changed", k, n)
			}
			if mac.Sum(key, b) != sum || mac.Sum(slices.Clone(key), slices.Clone(b)) != sum {
				t.Errorf("Sum of %d and %d, twice", k, n)
			}
		}
	}
}

// R6
func TestAnswersAreNew(t *testing.T) {
	key, info := [32]byte{1}, []byte("info")
	one, _ := mac.Expand(key, info, 100)
	two, _ := mac.Expand(key, info, 100)
	was := slices.Clone(two)
	clear(one[:cap(one)])
	three, _ := mac.Expand(key, info, 100)
	if string(info) != "info" || !bytes.Equal(two, was) || !bytes.Equal(three, was) {
		t.Error("Expand")
	}
	some, _ := mac.Keys(key, info, 3)
	others, _ := mac.Keys(key, info, 3)
	kept := slices.Clone(others)
	clear(some[:cap(some)])
	again, _ := mac.Keys(key, info, 3)
	if string(info) != "info" || !slices.Equal(others, kept) || !slices.Equal(again, kept) {
		t.Error("Keys")
	}
}

func FuzzAsLibrary(f *testing.F) {
	f.Add([]byte("Jefe"), []byte("what do ya want for nothing?"), 32)
	f.Add(ordinary(24, 65), ordinary(25, 200), 8160)
	f.Add([]byte{}, []byte{}, -1)
	f.Fuzz(func(t *testing.T, key, b []byte, n int) {
		if mac.Sum(key, b) != asWords(key, b) {
			t.Error("Sum")
		}
		extracted, err := hkdf.Extract(sha256.New, b, key)
		if err != nil {
			t.Fatal(err)
		}
		if got := mac.Extract(key, b); !bytes.Equal(got[:], extracted) {
			t.Error("Extract")
		}
		got, e := mac.Expand([32]byte(extracted), b, n)
		if n < 0 || n > 8160 {
			if e != api.ErrArg || len(got) != 0 {
				t.Errorf("Expand to %d: %d", n, e)
			}
			return
		}
		want, err := hkdf.Expand(sha256.New, extracted, string(b), n)
		if err != nil || e != api.OK || !bytes.Equal(got, want) {
			t.Errorf("Expand to %d: %d", n, e)
		}
	})
}

func BenchmarkSum(b *testing.B) {
	key, text := ordinary(26, 32), ordinary(27, 64)
	for b.Loop() {
		mac.Sum(key, text)
	}
}

func BenchmarkKeys(b *testing.B) {
	key, text := [32]byte(ordinary(28, 32)), ordinary(29, 32)
	for b.Loop() {
		mac.Keys(key, text, 3)
	}
}

func BenchmarkExpand(b *testing.B) {
	key := [32]byte(ordinary(30, 32))
	for b.Loop() {
		mac.Expand(key, nil, 8160)
	}
}
