package prims_test

import (
	"crypto/ecdh"
	"crypto/hkdf"
	"crypto/sha256"
	"encoding/hex"
	"math/rand"
	"slices"
	"strings"
	"testing"

	"signetring/aead"
	"signetring/api"
	"signetring/ladder"
	"signetring/mac"
	"signetring/prims"
)

// noKeys: texts that are no keys of bytes, those near to a key among them.
func noKeys() []string {
	k := key(1)
	l := []string{"", "x", k[:31], k[1:], k + "\x00", "\x00" + k, k + k, strings.Repeat("\x00", 31), strings.Repeat("\x00", 33), strings.Repeat("é", 32), strings.Repeat("a", 4000)}
	for n := range 100 {
		if n != api.KeySize {
			l = append(l, ordinary(int64(n), n))
		}
	}
	return l
}

// keys: texts of 32 bytes, ordinary ones and edges.
func keys() []string {
	l := []string{strings.Repeat("\x00", 32), strings.Repeat("\xff", 32), "\x01" + strings.Repeat("\x00", 31), strings.Repeat("\x00", 31) + "\x80", strings.Repeat("é", 16), "a secret of thirty-two bytes, so"}
	for i := range int64(10) {
		l = append(l, key(i))
	}
	return l
}

// fixed: the key that is written so.
func fixed(s string) [32]byte {
	b, err := hex.DecodeString(s)
	if err != nil {
		panic(err)
	}
	return [32]byte(b)
}

// nothing: the points of which nothing but 0 comes: those of small order, p more where there is room, and the highest bit set.
func nothing() []string {
	var l []string
	for _, u := range [][32]byte{
		{}, {1},
		fixed("ecffffffffffffffffffffffffffffffffffffffffffffffffffffffffffff7f"),
		fixed("edffffffffffffffffffffffffffffffffffffffffffffffffffffffffffff7f"),
		fixed("eeffffffffffffffffffffffffffffffffffffffffffffffffffffffffffff7f"),
		fixed("e0eb7a7c3b41b8ae1656e3faf19fc46ada098deb9c32b1fd866205165f49b800"),
		fixed("5f9c95bca3508c24b1d0b1559c83ef5b04445cc4581c8e86d8224eddd09f1157"),
	} {
		l = append(l, string(u[:]), flipped(string(u[:]), 255))
	}
	return l
}

// P11.1: Pub against ladder and the library; "" of what is no key.
func TestRealPub(t *testing.T) {
	p := prims.Real()
	for _, s := range keys() {
		got := p.Pub(s)
		if want := ladder.Pub([32]byte([]byte(s))); got != string(want[:]) {
			t.Errorf("Pub of %x: %x, not %x", s, got, want)
		}
		own, err := ecdh.X25519().NewPrivateKey([]byte(s))
		if err != nil {
			t.Fatal(err)
		}
		if want := own.PublicKey().Bytes(); got != string(want) {
			t.Errorf("Pub of %x: %x, not %x, as the library has it", s, got, want)
		}
	}
	for _, s := range noKeys() {
		if got := p.Pub(s); got != "" {
			t.Errorf("Pub of %d bytes: %x", len(s), got)
		}
	}
}

// P11.1, P11.3: RFC 7748's two secrets.
func TestRealKnown(t *testing.T) {
	p := prims.Real()
	a, b := fixed("77076d0a7318a57d3c16c17251b26645df4c2f87ebc0992ab177fba51db92c2a"), fixed("5dab087e624a8a4b79e17f8b83800ee66f3bb1292618b6fd1c2f8b27ff88e0eb")
	ours, theirs := fixed("8520f0098930a754748b7ddcb43ef75a0dbf3a0d26381af4eba4a98eaa9b4e6a"), fixed("de9edb7d7b7dc1b4d35b61c2ece435373f8343c85b78674dadfc7e146f882b4f")
	shared := fixed("4a5d9d5ba4ce2de1728e3bf480350f25e07e21c947d19e3376f09b3c1e161742")
	if p.Pub(string(a[:])) != string(ours[:]) || p.Pub(string(b[:])) != string(theirs[:]) {
		t.Error("Pub")
	}
	for _, c := range [][2][32]byte{{a, theirs}, {b, ours}} {
		if x, is := p.Dh(string(c[0][:]), string(c[1][:])); x != string(shared[:]) || !is {
			t.Errorf("Dh: %x, %t", x, is)
		}
	}
}

// P11.1: Dh against ladder and the library; of a secret, or of a public key, that is no key; and of points of which nothing comes.
func TestRealDh(t *testing.T) {
	p := prims.Real()
	for _, s := range keys() {
		for i := range int64(6) {
			u := key(50 + i)
			got, is := p.Dh(s, u)
			want, ok := ladder.Shared([32]byte([]byte(s)), [32]byte([]byte(u)))
			if got != string(want[:]) || is != ok || !is {
				t.Errorf("Dh of %x and %x: %x, %t; not %x", s, u, got, is, want)
			}
			own, _ := ecdh.X25519().NewPrivateKey([]byte(s))
			point, _ := ecdh.X25519().NewPublicKey([]byte(u))
			if lib, err := own.ECDH(point); err != nil || string(lib) != got {
				t.Errorf("Dh of %x and %x: %x, not %x, as the library has it", s, u, got, lib)
			}
		}
		for _, u := range nothing() {
			notShared(t, p, s, u)
		}
	}
	pub := p.Pub(key(2))
	for _, s := range noKeys() {
		notShared(t, p, s, pub)
		notShared(t, p, key(1), s)
		notShared(t, p, s, s)
	}
}

// P11.1: Hash against the library, of a text that is cut everywhere; and of nothing.
func TestRealHash(t *testing.T) {
	p := prims.Real()
	for _, n := range []int{0, 1, 3, 31, 32, 33, 55, 56, 63, 64, 65, 119, 128, 200} {
		s := ordinary(int64(n), n)
		want := sha256.Sum256([]byte(s))
		for at := range n + 1 {
			if got := p.Hash(s[:at], s[at:]); got != string(want[:]) {
				t.Errorf("Hash of %d bytes, cut at %d: %x, not %x", n, at, got, want)
			}
		}
	}
	long := ordinary(1, 200000)
	want := sha256.Sum256([]byte(long))
	for _, at := range []int{0, 1, 4000, 4001, 60000, 60001, 199999, 200000} {
		if got := p.Hash(long[:at], long[at:]); got != string(want[:]) {
			t.Errorf("Hash of %d bytes, cut at %d: %x", len(long), at, got)
		}
	}
	if p.Hash("a", "b") == p.Hash("b", "a") {
		t.Error("Hash of two, and of these the other way round")
	}
}

// P11.1: Keys against mac and the library; none of a key that is none.
func TestRealKeys(t *testing.T) {
	p := prims.Real()
	for _, k := range keys() {
		for _, text := range []string{"", "text", ordinary(1, 32), ordinary(2, 65), ordinary(3, 5000), ordinary(4, 70000)} {
			lib, err := hkdf.Key(sha256.New, []byte(text), []byte(k), "", 96)
			if err != nil {
				t.Fatal(err)
			}
			for n := 1; n <= 3; n++ {
				want, _ := mac.Keys([32]byte([]byte(k)), []byte(text), n)
				got := p.Keys(k, text, n)
				if len(got) != n || len(want) != n {
					t.Fatalf("Keys of %d: %d of them, not %d", n, len(got), len(want))
				}
				for i, s := range got {
					if s != string(want[i][:]) || s != string(lib[32*i:32*i+32]) {
						t.Errorf("Keys of %d, number %d: %x, not %x", n, i, s, want[i])
					}
				}
			}
		}
	}
	for _, k := range noKeys() {
		for _, n := range append([]int{1, 2, 3}, noCounts...) {
			if l := p.Keys(k, "text", n); len(l) != 0 {
				t.Errorf("Keys of %d bytes, %d of them: %x", len(k), n, l)
			}
		}
	}
}

// P11.1: Seal and Open against aead of the same bytes.
func TestRealBoxes(t *testing.T) {
	p := prims.Real()
	for i, k := range keys() {
		n := numbers[i%len(numbers)]
		for _, text := range []string{"", "a", "some text", ordinary(1, 64), ordinary(2, 4001), ordinary(3, mostSealed)} {
			for _, ad := range []string{"", "ad", ordinary(4, 4001), ordinary(5, mostSealed)} {
				want, no := aead.Seal([32]byte([]byte(k)), n, []byte(ad), []byte(text))
				got := p.Seal(k, n, ad, text)
				if got != string(want) || len(got) != len(text)+api.TagSize || no != api.OK {
					t.Errorf("Seal of %d bytes: %.40x, not %.40x", len(text), got, want)
				}
				opened(t, p, text, k, n, ad, string(want))
			}
		}
	}
}

// P11.1: of a key that is none there is no box, and none is opened: ErrKey, whatever else there is.
func TestRealBoxesOfNoKey(t *testing.T) {
	p := prims.Real()
	box, long := p.Seal(key(1), 7, "ad", "text"), ordinary(1, mostSealed+17)
	for _, k := range noKeys() {
		for _, c := range [][2]string{{"ad", "text"}, {"", ""}, {long, "text"}, {"ad", long}, {"ad", box}} {
			if got := p.Seal(k, 7, c[0], c[1]); got != "" {
				t.Errorf("Seal by %d bytes: %.40x", len(k), got)
			}
			notOpened(t, p, api.ErrKey, k, 7, c[0], c[1])
		}
	}
}

// P11.1: boxes with a bit turned, cut off, with bytes more, and too short or too long.
func TestRealBoxesThatAreNone(t *testing.T) {
	p, k := prims.Real(), key(1)
	for _, text := range []string{"", "some text", ordinary(2, 70)} {
		box := p.Seal(k, 7, "ad", text)
		for bit := range 8 * len(box) {
			notOpened(t, p, api.ErrTag, k, 7, "ad", flipped(box, bit))
		}
		for n := range len(box) {
			want := api.ErrTag
			if n < api.TagSize {
				want = api.ErrForm
			}
			notOpened(t, p, want, k, 7, "ad", box[:n])
			if n > 0 {
				want = api.ErrTag
				if len(box)-n < api.TagSize {
					want = api.ErrForm
				}
				notOpened(t, p, want, k, 7, "ad", box[n:])
			}
		}
		for _, more := range []string{"\x00", "x", box, ordinary(3, 16)} {
			notOpened(t, p, api.ErrTag, k, 7, "ad", box+more)
			notOpened(t, p, api.ErrTag, k, 7, "ad", more+box)
		}
		for bit := range 8 * len(k) {
			notOpened(t, p, api.ErrTag, flipped(k, bit), 7, "ad", box)
		}
		for bit := range 64 {
			notOpened(t, p, api.ErrTag, k, 7^1<<bit, "ad", box)
		}
		for _, ad := range []string{"", "a", "da", "ad\x00", "\x00ad", "Ad", ordinary(4, mostSealed)} {
			notOpened(t, p, api.ErrTag, k, 7, ad, box)
		}
		notOpened(t, p, api.ErrBig, k, 7, ordinary(4, mostSealed+1), box)
	}
	notOpened(t, p, api.ErrTag, k, 7, "ad", ordinary(5, mostSealed+api.TagSize))
	notOpened(t, p, api.ErrBig, k, 7, "ad", ordinary(5, mostSealed+api.TagSize+1))
	notOpened(t, p, api.ErrBig, k, 7, ordinary(4, mostSealed+1), "")
}

// asBytes: each call of prims of bytes against the layers below, of whatever texts.
func asBytes(t *testing.T, key, a, b string, n uint64, count int) {
	t.Helper()
	p := prims.Real()
	if digest := sha256.Sum256([]byte(key + a)); p.Hash(key, a) != string(digest[:]) {
		t.Errorf("Hash of %x and %x", key, a)
	}
	if len(key) != 32 {
		notShared(t, p, key, a)
		notShared(t, p, a, key)
		notOpened(t, p, api.ErrKey, key, n, a, b)
		if p.Pub(key) != "" || p.Seal(key, n, a, b) != "" || len(p.Keys(key, a, count)) != 0 {
			t.Errorf("an answer of %x, that is no key", key)
		}
		return
	}
	k := [32]byte([]byte(key))
	if pub := ladder.Pub(k); p.Pub(key) != string(pub[:]) {
		t.Errorf("Pub of %x", key)
	}
	if len(a) != 32 {
		notShared(t, p, key, a)
	} else if x, ok := ladder.Shared(k, [32]byte([]byte(a))); !ok {
		notShared(t, p, key, a)
	} else if got, is := p.Dh(key, a); got != string(x[:]) || !is {
		t.Errorf("Dh of %x and %x: %x, %t", key, a, got, is)
	}
	var want []string
	all, _ := mac.Keys(k, []byte(a), count)
	for _, one := range all {
		want = append(want, string(one[:]))
	}
	if got := p.Keys(key, a, count); !slices.Equal(got, want) {
		t.Errorf("Keys of %x and %x, %d: %x, not %x", key, a, count, got, want)
	}
	box, no := aead.Seal(k, n, []byte(a), []byte(b))
	if got := p.Seal(key, n, a, b); got != string(box) {
		t.Errorf("Seal of %x: %x, not %x", b, got, box)
	}
	if no == api.OK {
		opened(t, p, b, key, n, a, string(box))
	}
	if text, no := aead.Open(k, n, []byte(a), []byte(b)); no != api.OK {
		notOpened(t, p, no, key, n, a, b)
	} else {
		opened(t, p, string(text), key, n, a, b)
	}
}

// P11.1: calls as chance has them.
func TestRealAsWords(t *testing.T) {
	r := rand.New(rand.NewSource(1))
	sizes := []int{0, 1, 16, 31, 32, 32, 32, 32, 33, 48, 64, 100, 4001}
	for range 300 {
		text := func() string { return ordinary(r.Int63(), sizes[r.Intn(len(sizes))]) }
		asBytes(t, text(), text(), text(), r.Uint64()>>r.Intn(64), r.Intn(7)-2)
	}
}
