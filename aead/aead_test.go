package aead_test

import (
	"bytes"
	"crypto/sha256"
	"encoding/binary"
	"encoding/hex"
	"math"
	"math/rand"
	"slices"
	"testing"

	"signetring/aead"
	"signetring/api"
	"signetring/stream"
	"signetring/tag"
)

// most: as many bytes may ad have, and what is sealed.
const most = 60000

// ordinary: bytes of no special kind, the same ones at each run.
func ordinary(seed int64, n int) []byte {
	r := rand.New(rand.NewSource(seed))
	b := make([]byte, n)
	for i := range b {
		b[i] = byte(r.Intn(256))
	}
	return b
}

// counted: the bytes from one on.
func counted(from, n int) []byte {
	b := make([]byte, n)
	for i := range b {
		b[i] = byte(from + i)
	}
	return b
}

// full: bytes of 255.
func full(n int) []byte { return bytes.Repeat([]byte{255}, n) }

// laid: bytes of words in hexadecimal digits.
func laid(t *testing.T, words string) []byte {
	t.Helper()
	b, err := hex.DecodeString(words)
	if err != nil {
		t.Fatal(err)
	}
	return b
}

// sizes: of ad and of what is sealed, at the edges of pieces and of blocks, and great ones.
var sizes = []int{0, 1, 2, 15, 16, 17, 31, 32, 33, 63, 64, 65, 127, 128, 129, 1000, 4000, 4096, 4097}

// numbers: the least ones, some whose bytes are full, and the greatest ones.
var numbers = []uint64{0, 1, 2, 255, 256, 1<<32 - 1, 1 << 32, 1<<63 - 1, 1 << 63, math.MaxUint64 - 1, math.MaxUint64}

// someKeys: keys of each kind.
func someKeys() [][32]byte {
	return [][32]byte{{}, {1}, {31: 128}, [32]byte(counted(0, 32)), [32]byte(full(32)), [32]byte(ordinary(1, 32))}
}

// nonceOf: the nonce of a number.
func nonceOf(n uint64) [12]byte {
	return [12]byte(binary.LittleEndian.AppendUint64(make([]byte, 4), n))
}

// marked: c and the tag of ad and c behind it, as the document's words tell it.
func marked(key [32]byte, n uint64, ad, c []byte) []byte {
	var all []byte
	for _, part := range [][]byte{ad, c} {
		all = append(all, part...)
		for len(all)%16 != 0 {
			all = append(all, 0)
		}
	}
	all = binary.LittleEndian.AppendUint64(all, uint64(len(ad)))
	all = binary.LittleEndian.AppendUint64(all, uint64(len(c)))
	block := stream.Block(key, nonceOf(n), 0)
	sum := tag.Sum([32]byte(block[:32]), all)
	return append(slices.Clone(c), sum[:]...)
}

// turned: bytes by the blocks from 1 on.
func turned(key [32]byte, n uint64, b []byte) []byte {
	c, _ := stream.Xor(key, nonceOf(n), 1, b)
	return c
}

// asWords: a box as the document's words tell it; nothing is too much.
func asWords(key [32]byte, n uint64, ad, b []byte) []byte {
	return marked(key, n, ad, turned(key, n, b))
}

// box: what is sealed; there is no error.
func box(t *testing.T, key [32]byte, n uint64, ad, b []byte) []byte {
	t.Helper()
	out, e := aead.Seal(key, n, ad, b)
	if e != api.OK {
		t.Fatalf("Seal of %d bytes with %d: %d", len(b), len(ad), e)
	}
	return out
}

// opens: a box is opened, and these are its bytes.
func opens(t *testing.T, key [32]byte, n uint64, ad, box, want []byte) {
	t.Helper()
	if got, e := aead.Open(key, n, ad, box); e != api.OK || !bytes.Equal(got, want) {
		t.Errorf("Open of %d bytes with %d by %d: %d bytes, %d", len(box), len(ad), n, len(got), e)
	}
}

// refuses: a box is not opened, by this error and with nothing beside it (R3).
func refuses(t *testing.T, what string, want api.Errno, key [32]byte, n uint64, ad, box []byte) {
	t.Helper()
	if got, e := aead.Open(key, n, ad, box); e != want || len(got) != 0 {
		t.Errorf("%s: %d bytes, %d, not %d", what, len(got), e, want)
	}
}

// P7.1, P7.2: the chapter's example.
func TestExample(t *testing.T) {
	key, ad := [32]byte(ordinary(2, 32)), []byte("ad")
	b := box(t, key, 5, ad, []byte("abc"))
	if len(b) != 19 {
		t.Errorf("%d bytes", len(b))
	}
	opens(t, key, 5, ad, b, []byte("abc"))
}

// P7.1, P7.2: RFC 8439's, A.5. (The nonce of its other one, 2.8.2, no number has.)
func TestKnownBox(t *testing.T) {
	key := [32]byte(laid(t, "1c9240a5eb55d38af333888604f6b5f0473917c1402b80099dca5cbc207075c0"))
	ad := laid(t, "f33388860000000000004e91")
	text := []byte("Internet-Drafts are draft documents valid for a maximum of six months and may be updated, replaced, or obsoleted by other documents at any time. It is inappropriate to use Internet-Drafts as reference material or to cite them other than as /\u201cwork in progress./\u201d")
	want := laid(t, "64a0861575861af460f062c79be643bd5e805cfd345cf389f108670ac76c8cb2"+
		"4c6cfc18755d43eea09ee94e382d26b0bdb7b73c321b0100d4f03b7f355894cf"+
		"332f830e710b97ce98c8a84abd0b948114ad176e008d33bd60f982b1ff37c855"+
		"9797a06ef4f0ef61c186324e2b3506383606907b6a7c02b0f9f6157b53c867e4"+
		"b9166c767b804d46a59b5216cde7a4e99040c5a40433225ee282a1b0a06c523e"+
		"af4534d7f83fa1155b0047718cbc546a0d072b04b3564eea1b422273f548271a"+
		"0bb2316053fa76991955ebd63159434ecebb4e466dae5a1073a6727627097a10"+
		"49e617d91d361094fa68f0ff77987130305beaba2eda04df997b714d6c6f2c29"+
		"a6ad5cb4022b02709b"+"eead9d67890cbb22392336fea1851f38")
	if got := box(t, key, 0x0807060504030201, ad, text); !bytes.Equal(got, want) {
		t.Errorf("%x", got)
	}
	opens(t, key, 0x0807060504030201, ad, want, text)
}

// P7.1, P7.2: small boxes, as OpenSSL has them.
func TestSmallKnownBoxes(t *testing.T) {
	key := [32]byte(counted(0, 32))
	for _, c := range []struct {
		n    uint64
		size int
		box  string
	}{
		{0, 0, "10324f800a160bd9a1794255be7ec29d"},
		{0, 1, "187e95418f009808fe42131042829eac1e"},
		{1, 0, "a8d30d2553bfe08494e6aa8fd5b07296"},
		{1, 1, "9fab74ddb1facb521a66ef5ded774420b7"},
		{math.MaxUint64, 0, "781266469470e5bec60b4f4357c7cfa4"},
		{math.MaxUint64, 1, "50349952a38e4c8f6407ab851319524788"},
	} {
		ad, b := counted(1, c.size), counted(0, c.size)
		if got := box(t, key, c.n, ad, b); hex.EncodeToString(got) != c.box {
			t.Errorf("%d bytes by %d: %x, not %s", c.size, c.n, got, c.box)
		}
		opens(t, key, c.n, ad, laid(t, c.box), b)
	}
}

// P7.1: by the digests of what OpenSSL has, of as many bytes of ad as are sealed, by the numbers 0, 1 and the greatest one.
func TestKnownDigests(t *testing.T) {
	key := [32]byte(counted(0, 32))
	for size, want := range map[int][3]string{
		0:     {"5094badbbc0889305ec0fb7d155c21f5047f6d104264493cf56c5cfafba7620d", "719993cdeeb7e85de55c8013c506d218d70ab7c9ca0e280c64642b657aaa27b8", "c86d87ca91700ceff5e81c3646580e35b9bc8d5900dbe0616c6b2329e4ee9db1"},
		1:     {"2a2e951f2409e49a16d080609f43860ab5292bf9bcebcfa424287d3475eb5b01", "2983b713f589ede40ea864129c6b21e1b5f9de881ce55cff11130ff7df4e6875", "8fed8ea14d63623249490924a2a9f44e4a9cbd3ab865404709c67cbc40df22cc"},
		15:    {"24c31eae4675ab87948c4ea02520596edd02b6e52dbf7be33b5e81fe2d4c13c8", "a0d26debbbe5ff3a5c4b096ac318e21a0f1f676c18eb89b435a84c111ef96f64", "05a0c5622bd454a222f2994a4d893d12d8ba533ea118a4b87430ae8485b2d6dd"},
		16:    {"bd47dd6c5ec5343b6edab713fc5aeda2153121225062426f25eda2424511a410", "c665bea5ee5b58a485c32c603deb120a5733c1cc3241aa79f6edb3083337418e", "4daebc1a9ea512fbd26363b56c3738fc5a7850a5c09dd92141249f333d1fb8ea"},
		17:    {"0b05246325273a2a3009253a48934815a37b4f31690f0dd74bea0cbdca1feaef", "6a6244428ffa2b92115dedfb24723cc701a61ae45a61c60a336c16b8a651678b", "d6dff7abf7d80e8161fc009e47385c0caf2b184b1a86e7b6afa77e8df9ba2068"},
		63:    {"60017d7b9741201ebd57bbbb9e0f48d2960933dd6a06dcc67346d99c0ee5c429", "5550fc19f7227ec7ce5d7fde02d45990d1bcc4cd85979b04a309de3a2c8f6929", "a18c08714b7f70cbeb49508226116825edfd238b2676c2796bf6d0fc9a34e85b"},
		64:    {"b47fd8094aab94d9254c2d67488bf46a2bfa55904311cb488e260770e9500030", "914efc4d2df0b188a1e438e23c9bbbf912007e502754abd151079724e8fd995d", "8041fd361b6549aecc2c4099fb1ae95d70a0b3a05c8f53b06ee1eecd083a8fa4"},
		65:    {"9bbe875b7491aa066e085496f7a79a16b120f17cf756542d8ac1cbaef0c7ab12", "4f648b40f7eb6594ce64e737614d412a984be14765a8444cf2ec031fda3f1494", "22c30cdfb0a8ed73fb714d354881cbe57600960022ccff1bf3eed84a81d85bb1"},
		4000:  {"9c5af00780455d147ec87d68b608acdfbdc6dbe8142428e669daf81a2e68f0ac", "ab45b63178afdb5704d51760e82967d95161fda4d87e60ad3d534bfb0c10f440", "28a5874040918b91ee77467197bd179a719b4b6372430a7f93b915182350131c"},
		4001:  {"e342a4b20d8c8f8c241ea077e59e80bf7c9dc035e61b73361532bdb314866be3", "f77a608eb9e12a6ddae1a2142af4ca5df40275dfab831c22aad9983fce4e7a98", "4b28767ee6e46cc55e32303854b37763fab813a3cb2ddb5e20ced2a91b263943"},
		59999: {"ba33962731f4f6e8c183c862837adb280568de40dbad479d884705ef61ff3c88", "a9fa8feae5929ac7183687956000e34d381b92b60a2b26758fd03fa7974ad40b", "16ed27c71cfd29a50f2eacd6bb8ec8adb9843e43fbf06a67ff70cfb918dbed0f"},
		60000: {"6b66dc1ae0f4a87e05f1682b9ed4e94f9f75d76ce15a5f92ce86deadb535efa3", "cf1f7cb0eb5df50da3c97f3b9c6dc13a6cfb31c796bdde09407ba2644db62ba6", "106a9d599779b76cb6f33bba1f12ecdde4bd2b33cb92abbb1da7dcb6c509da14"},
	} {
		ad, b := counted(1, size), counted(0, size)
		for i, n := range []uint64{0, 1, math.MaxUint64} {
			got := box(t, key, n, ad, b)
			if sum := sha256.Sum256(got); hex.EncodeToString(sum[:]) != want[i] {
				t.Errorf("%d bytes by %d: a box of digest %x, not %s", size, n, sum, want[i])
			}
			opens(t, key, n, ad, got, b)
		}
	}
}

// P7.1: the tags of what OpenSSL has, where ad and what is sealed are of other sizes.
func TestKnownTags(t *testing.T) {
	for _, c := range []struct {
		ad, b int
		tag   string
	}{
		{0, 60000, "b07a339d535a77f4ee2a8cda96643d40"},
		{60000, 0, "582a7b75bcc4600df858fc9ece596bc5"},
		{12, 114, "1d1afc9bf3d86b925482bca9c0dece36"},
		{17, 3, "49754f59257106b90c72791320d3db91"},
		{3, 17, "326de4a9072ad1fe3d112a41e16ebd1b"},
		{16, 1, "4f0df0dd50403afc3807f25333e72c64"},
		{1, 16, "aecaa05e229c43ee29289bb0bd977682"},
		{60000, 1, "fc7d1da95e12216ecfac6e2cf60fcdbc"},
	} {
		got := box(t, [32]byte(counted(0, 32)), 1<<32, counted(1, c.ad), counted(0, c.b))
		if len(got) != c.b+16 || hex.EncodeToString(got[c.b:]) != c.tag {
			t.Errorf("%d bytes with %d: %x, not %s", c.b, c.ad, got[len(got)-16:], c.tag)
		}
	}
}

// P7.1, P7.3
func TestSealAsWords(t *testing.T) {
	key := [32]byte(ordinary(3, 32))
	for _, n := range []uint64{0, 1, math.MaxUint64} {
		for _, more := range sizes {
			for _, size := range sizes {
				ad, b := ordinary(int64(more), more), ordinary(int64(size), size)
				got := box(t, key, n, ad, b)
				if !bytes.Equal(got, asWords(key, n, ad, b)) {
					t.Errorf("%d bytes with %d by %d: %d bytes", size, more, n, len(got))
				}
				opens(t, key, n, ad, got, b)
			}
		}
	}
}

// P7.1, P7.3: each kind of key, and each number.
func TestSealByEachKey(t *testing.T) {
	seen := map[string]bool{}
	for _, key := range someKeys() {
		for _, n := range numbers {
			for _, b := range [][]byte{nil, make([]byte, 70), full(70), ordinary(4, 70)} {
				got := box(t, key, n, []byte("ad"), b)
				if !bytes.Equal(got, asWords(key, n, []byte("ad"), b)) {
					t.Errorf("%x by %x, %d: %x", b, key, n, got)
				}
				opens(t, key, n, []byte("ad"), got, b)
				if seen[string(got)] {
					t.Errorf("%x by %x, %d: a box that was", b, key, n)
				}
				seen[string(got)] = true
			}
		}
	}
}

// P7.1, P7.3: each small size, of ad and of what is sealed.
func TestEachSize(t *testing.T) {
	key, all := [32]byte(ordinary(5, 32)), ordinary(6, 100)
	for size := range 70 {
		for more := range 40 {
			ad, b := all[60:60+more], all[:size]
			got := box(t, key, 9, ad, b)
			if !bytes.Equal(got, asWords(key, 9, ad, b)) {
				t.Errorf("%d bytes with %d: %x", size, more, got)
			}
			opens(t, key, 9, ad, got, b)
		}
	}
}

// P7.1, R3: as much as may be, and a byte more, of ad and of what is sealed.
func TestSealOfTooMuch(t *testing.T) {
	key := [32]byte(ordinary(7, 32))
	for _, more := range []int{0, 1, most - 1, most, most + 1, most + 16, 65536, 65537, 1 << 20} {
		for _, size := range []int{0, 1, most - 1, most, most + 1, most + 16, 65536, 65537, 1 << 20} {
			ad, b := ordinary(8, more), ordinary(9, size)
			got, e := aead.Seal(key, 1, ad, b)
			if more > most || size > most {
				if e != api.ErrBig || len(got) != 0 {
					t.Errorf("%d bytes with %d: %d bytes, %d", size, more, len(got), e)
				}
				continue
			}
			if e != api.OK || !bytes.Equal(got, asWords(key, 1, ad, b)) {
				t.Errorf("%d bytes with %d: %d bytes, %d", size, more, len(got), e)
			}
			opens(t, key, 1, ad, got, b)
		}
	}
}

// P7.2, R2, R3: boxes with their right tags, of each size from none on, with ad of each size.
func TestOpenAtTheLimits(t *testing.T) {
	key := [32]byte(ordinary(10, 32))
	for _, more := range []int{0, 1, most - 1, most, most + 1, 65537, 1 << 20} {
		ad := ordinary(11, more)
		for _, size := range []int{0, 1, 15, 16, 17, most, most + 15, most + 16, most + 17, most + 32, 65552, 65553, 1 << 20} {
			var all, want []byte
			if size < 16 {
				all = ordinary(12, size)
			} else {
				c := ordinary(12, size-16)
				all, want = marked(key, 2, ad, c), turned(key, 2, c)
			}
			switch {
			case more > most || size > most+16:
				refuses(t, "too much", api.ErrBig, key, 2, ad, all)
			case size < 16:
				refuses(t, "too little", api.ErrForm, key, 2, ad, all)
			default:
				opens(t, key, 2, ad, all, want)
			}
		}
	}
}

// P7.2, R2: where a tag is wrong, too, the error that is named first is told.
func TestWhichError(t *testing.T) {
	key := [32]byte(ordinary(13, 32))
	for _, c := range []struct {
		ad, box int
		want    api.Errno
	}{
		{0, 16, api.ErrTag}, {0, 17, api.ErrTag}, {most, 16, api.ErrTag}, {most, most + 16, api.ErrTag}, {0, most + 16, api.ErrTag},
		{0, 0, api.ErrForm}, {0, 15, api.ErrForm}, {most, 0, api.ErrForm}, {most, 15, api.ErrForm},
		{0, most + 17, api.ErrBig}, {most, most + 17, api.ErrBig}, {most + 1, most + 17, api.ErrBig},
		{most + 1, 0, api.ErrBig}, {most + 1, 15, api.ErrBig}, {most + 1, 16, api.ErrBig}, {most + 1, most + 16, api.ErrBig},
	} {
		for _, n := range []uint64{0, 1, math.MaxUint64} {
			refuses(t, "zeros", c.want, key, n, make([]byte, c.ad), make([]byte, c.box))
			refuses(t, "ordinary bytes", c.want, key, n, ordinary(14, c.ad), ordinary(15, c.box))
		}
	}
}

// P7.2: each size that is less than a tag.
func TestOpenOfTooLittle(t *testing.T) {
	key := [32]byte(ordinary(16, 32))
	whole := box(t, key, 3, nil, nil)
	refuses(t, "nil", api.ErrForm, key, 3, nil, nil)
	for n := range 16 {
		refuses(t, "the beginning of a tag", api.ErrForm, key, 3, nil, whole[:n])
		refuses(t, "the end of a tag", api.ErrForm, key, 3, nil, whole[16-n:])
	}
	opens(t, key, 3, nil, whole, nil)
}

// P7.1, P7.2, R8: nil bytes are no bytes.
func TestNoBytes(t *testing.T) {
	key := [32]byte(ordinary(17, 32))
	none := [][]byte{nil, {}, make([]byte, 0, 100), full(20)[:0]}
	for _, n := range numbers {
		want := asWords(key, n, nil, nil)
		for _, ad := range none {
			for _, b := range none {
				if got := box(t, key, n, ad, b); len(got) != 16 || !bytes.Equal(got, want) {
					t.Errorf("by %d: %x, not %x", n, got, want)
				}
				opens(t, key, n, ad, want, nil)
			}
		}
	}
}

// P7.3: each bit of the tag, alone, and all of them.
func TestTurnedTag(t *testing.T) {
	for _, key := range someKeys() {
		for _, size := range []int{0, 1, 15, 16, 17, 63, 64, 65, 4000} {
			ad, b := ordinary(18, size), ordinary(19, size)
			whole := box(t, key, uint64(size), ad, b)
			for i := range 128 {
				other := slices.Clone(whole)
				other[size+i/8] ^= 1 << (i % 8)
				refuses(t, "a bit of the tag", api.ErrTag, key, uint64(size), ad, other)
			}
			other := slices.Clone(whole)
			for i := range 16 {
				other[size+i] ^= 255
			}
			refuses(t, "all bits of the tag", api.ErrTag, key, uint64(size), ad, other)
			opens(t, key, uint64(size), ad, whole, b)
		}
	}
}

// P7.3: any other byte in the tag, and bits at two places of it.
func TestOtherTag(t *testing.T) {
	key, ad := [32]byte(ordinary(20, 32)), []byte("ad")
	whole := box(t, key, 4, ad, []byte("text"))
	for i := range 16 {
		for by := 1; by < 256; by++ {
			other := slices.Clone(whole)
			other[4+i] ^= byte(by)
			refuses(t, "a byte of the tag", api.ErrTag, key, 4, ad, other)
			if i > 0 {
				other[4] ^= byte(by)
				refuses(t, "two bytes of the tag", api.ErrTag, key, 4, ad, other)
			}
		}
	}
}

// P7.3: the greatest box, whose tag is the last thing of many.
func TestTurnedTagOfMuch(t *testing.T) {
	key, ad, b := [32]byte(ordinary(21, 32)), ordinary(22, most), ordinary(23, most)
	whole := box(t, key, math.MaxUint64, ad, b)
	for i := range 128 {
		whole[most+i/8] ^= 1 << (i % 8)
		refuses(t, "a bit of the tag", api.ErrTag, key, math.MaxUint64, ad, whole)
		whole[most+i/8] ^= 1 << (i % 8)
	}
	opens(t, key, math.MaxUint64, ad, whole, b)
}

// P7.2: each bit of the text.
func TestTurnedText(t *testing.T) {
	key, ad := [32]byte(ordinary(24, 32)), ordinary(25, 20)
	for _, size := range []int{1, 15, 16, 17, 63, 64, 65, 1000} {
		whole := box(t, key, 5, ad, ordinary(26, size))
		for i := range 8 * size {
			other := slices.Clone(whole)
			other[i/8] ^= 1 << (i % 8)
			refuses(t, "a bit of the text", api.ErrTag, key, 5, ad, other)
		}
	}
}

// P7.2: cut off anywhere, at either end, or with a byte more, of any value and at any place.
func TestOtherLength(t *testing.T) {
	key, ad := [32]byte(ordinary(27, 32)), []byte("ad")
	for _, b := range [][]byte{nil, {0}, make([]byte, 16), ordinary(28, 17), ordinary(29, 64), ordinary(30, 65), ordinary(31, 300)} {
		whole := box(t, key, 6, ad, b)
		for i := range whole {
			want := api.ErrTag
			if i < 16 {
				want = api.ErrForm
			}
			refuses(t, "cut off at its end", want, key, 6, ad, whole[:i])
			refuses(t, "cut off at its beginning", want, key, 6, ad, whole[len(whole)-i:])
		}
		for by := range 256 {
			more := []byte{byte(by)}
			refuses(t, "with a byte at its end", api.ErrTag, key, 6, ad, slices.Concat(whole, more))
			refuses(t, "with a byte at its beginning", api.ErrTag, key, 6, ad, slices.Concat(more, whole))
			refuses(t, "with a byte ahead of the tag", api.ErrTag, key, 6, ad, slices.Insert(slices.Clone(whole), len(b), more...))
		}
		refuses(t, "twice", api.ErrTag, key, 6, ad, slices.Concat(whole, whole))
	}
}

// P7.2: one bit of the key, or of the number.
func TestOtherKeyOrNumber(t *testing.T) {
	for _, size := range []int{0, 1, 16, 65} {
		ad, b := ordinary(32, size), ordinary(33, size)
		for _, key := range someKeys() {
			for _, n := range []uint64{0, 1, math.MaxUint64} {
				whole := box(t, key, n, ad, b)
				for i := range 256 {
					other := key
					other[i/8] ^= 1 << (i % 8)
					refuses(t, "another key", api.ErrTag, other, n, ad, whole)
				}
				for i := range 64 {
					refuses(t, "another number", api.ErrTag, key, n^1<<i, ad, whole)
				}
				refuses(t, "the next number", api.ErrTag, key, n+1, ad, whole)
				refuses(t, "the number ahead", api.ErrTag, key, n-1, ad, whole)
			}
		}
	}
}

// P7.2: one bit of ad, fewer bytes of it, or more.
func TestOtherAd(t *testing.T) {
	key, b := [32]byte(ordinary(34, 32)), ordinary(35, 20)
	for _, size := range []int{0, 1, 15, 16, 17, 33, 64} {
		for _, ad := range [][]byte{make([]byte, size), ordinary(36, size)} {
			whole := box(t, key, 7, ad, b)
			for i := range 8 * size {
				other := slices.Clone(ad)
				other[i/8] ^= 1 << (i % 8)
				refuses(t, "a bit of ad", api.ErrTag, key, 7, other, whole)
			}
			for i := range size {
				refuses(t, "less ad", api.ErrTag, key, 7, ad[:i], whole)
			}
			for more := 1; more <= 33; more++ {
				refuses(t, "more ad", api.ErrTag, key, 7, slices.Concat(ad, make([]byte, more)), whole)
				refuses(t, "more ad ahead", api.ErrTag, key, 7, slices.Concat(make([]byte, more), ad), whole)
			}
		}
	}
}

// P7.1, P7.2: bytes that go over from ad to the text, or back, do not keep the tag.
func TestAdIsNoText(t *testing.T) {
	key, all := [32]byte(ordinary(37, 32)), ordinary(38, 64)
	seen := map[string]int{}
	for cut := range len(all) + 1 {
		whole := marked(key, 8, all[:cut], all[cut:])
		opens(t, key, 8, all[:cut], whole, turned(key, 8, all[cut:]))
		sum := whole[len(all)-cut:]
		if was, ok := seen[string(sum)]; ok {
			t.Errorf("cut at %d, and at %d: one tag", was, cut)
		}
		seen[string(sum)] = cut
		for other := range len(all) + 1 {
			if other != cut {
				refuses(t, "cut elsewhere", api.ErrTag, key, 8, all[:other], slices.Concat(all[other:], sum))
			}
		}
	}
}

// P7.2: bytes that Seal did not make are opened, if their tag is right.
func TestOpenAsWords(t *testing.T) {
	for i, key := range someKeys() {
		for _, n := range numbers {
			for _, size := range sizes {
				ad, c := ordinary(int64(i), size), ordinary(int64(size), size)
				opens(t, key, n, ad, marked(key, n, ad, c), turned(key, n, c))
			}
		}
	}
}

// P7.1: what is sealed is not to be seen in the box, and is turned from block 1 on, not from the tag's key on.
func TestTextIsTurned(t *testing.T) {
	key := [32]byte(ordinary(39, 32))
	for _, n := range numbers {
		got := box(t, key, n, nil, make([]byte, 128))
		one, two := stream.Block(key, nonceOf(n), 1), stream.Block(key, nonceOf(n), 2)
		if !bytes.Equal(got[:64], one[:]) || !bytes.Equal(got[64:128], two[:]) {
			t.Errorf("by %d: %x", n, got)
		}
	}
}

// R5, R6: what lies behind an argument's end stays, too, and so it is with errors.
func TestArgumentsStay(t *testing.T) {
	key := [32]byte(ordinary(40, 32))
	for _, size := range append(slices.Clone(sizes), most, most+1, most+17) {
		all, also := ordinary(41, size+100), ordinary(42, size+100)
		one, e := aead.Seal(key, 1, also[:size], all[:size])
		two, f := aead.Seal(key, 1, also[:size:size], all[:size:size])
		if e != f || !bytes.Equal(one, two) {
			t.Errorf("Seal of %d bytes, with and without room behind them: %d, %d", size, e, f)
		}
		aead.Open(key, 1, also[:size], all[:size])
		if !bytes.Equal(all, ordinary(41, size+100)) || !bytes.Equal(also, ordinary(42, size+100)) || key != [32]byte(ordinary(40, 32)) {
			t.Errorf("%d bytes were changed", size)
		}
		if e != api.OK {
			continue
		}
		room := append(slices.Clone(one), full(100)...)
		opens(t, key, 1, also[:size], room[:size+16], all[:size])
		if !bytes.Equal(room[:size+16], two) || !bytes.Equal(room[size+16:], full(100)) {
			t.Errorf("a box of %d bytes was changed", size)
		}
	}
}

// R6: ad and what is sealed, or the box, may lie one in the other.
func TestArgumentsTogether(t *testing.T) {
	key, all := [32]byte(ordinary(43, 32)), ordinary(44, 100)
	if got := box(t, key, 1, all[10:60], all[20:90]); !bytes.Equal(got, asWords(key, 1, all[10:60], all[20:90])) {
		t.Errorf("%x", got)
	}
	whole := marked(key, 1, all, all)
	opens(t, key, 1, whole[:100], whole, turned(key, 1, all))
	if !bytes.Equal(all, ordinary(44, 100)) || !bytes.Equal(whole, marked(key, 1, all, all)) {
		t.Error("bytes were changed")
	}
}

// wiped: all memory of an answer is written over, with the room behind it.
func wiped(b []byte) { clear(b[:cap(b)]) }

// R6
func TestAnswersAreNew(t *testing.T) {
	key := [32]byte(ordinary(45, 32))
	for _, size := range append(slices.Clone(sizes), most) {
		ad, b := ordinary(46, size), ordinary(47, size)
		one, two := box(t, key, 2, ad, b), box(t, key, 2, ad, b)
		was := slices.Clone(two)
		wiped(one)
		if !bytes.Equal(two, was) || !bytes.Equal(b, ordinary(47, size)) || !bytes.Equal(ad, ordinary(46, size)) {
			t.Errorf("%d bytes: a box was written over, and more has changed", size)
		}
		three, e := aead.Open(key, 2, ad, two)
		four, f := aead.Open(key, 2, ad, two)
		if e != api.OK || f != api.OK {
			t.Fatalf("Open of %d bytes: %d, %d", size, e, f)
		}
		wiped(three)
		if !bytes.Equal(two, was) || !bytes.Equal(four, b) {
			t.Errorf("%d bytes: an answer of Open was written over, and more has changed", size)
		}
		wiped(ad)
		wiped(b)
		wiped(two)
		if !bytes.Equal(four, ordinary(47, size)) || !bytes.Equal(box(t, key, 2, ordinary(46, size), ordinary(47, size)), was) {
			t.Errorf("%d bytes: arguments were written over, and an answer has changed", size)
		}
	}
}

// R4: calls ahead of a call say nothing, not even if they were refused.
func TestAnyOrder(t *testing.T) {
	key, ad, b := [32]byte(ordinary(48, 32)), ordinary(49, 30), ordinary(50, 100)
	was := box(t, key, 3, ad, b)
	for _, size := range append(slices.Clone(sizes), most, most+1) {
		aead.Seal(key, 3, full(size), full(size))
		aead.Seal([32]byte(full(32)), math.MaxUint64, full(size), full(size))
		aead.Open(key, 3, full(size), was)
		aead.Open(key, 3, ad, full(size))
		if got := box(t, key, 3, ad, b); !bytes.Equal(got, was) {
			t.Errorf("behind %d bytes: %x, not %x", size, got, was)
		}
		opens(t, key, 3, ad, was, b)
	}
}

func FuzzAsWords(f *testing.F) {
	f.Add([]byte{}, uint64(0), []byte{}, []byte{}, uint(0))
	f.Add(counted(0, 32), uint64(1), []byte("ad"), []byte("text"), uint(7))
	f.Add(full(32), uint64(math.MaxUint64), full(33), full(65), uint(200))
	f.Add(ordinary(51, 32), uint64(1<<32), ordinary(52, most+1), ordinary(53, 100), uint(3))
	f.Add(ordinary(54, 32), uint64(1<<63), ordinary(55, 100), ordinary(56, most+17), uint(9))
	f.Fuzz(func(t *testing.T, k []byte, n uint64, ad, b []byte, bit uint) {
		var key [32]byte
		copy(key[:], k)
		if len(ad) > most {
			refuses(t, "too much ad", api.ErrBig, key, n, ad, b)
		} else if len(b) > most+16 {
			refuses(t, "too great a box", api.ErrBig, key, n, ad, b)
		} else if len(b) < 16 {
			refuses(t, "too small a box", api.ErrForm, key, n, ad, b)
		} else if c := b[:len(b)-16]; bytes.Equal(b, marked(key, n, ad, c)) {
			opens(t, key, n, ad, b, turned(key, n, c))
		} else {
			refuses(t, "another tag", api.ErrTag, key, n, ad, b)
		}
		whole, e := aead.Seal(key, n, ad, b)
		if len(ad) > most || len(b) > most {
			if e != api.ErrBig || len(whole) != 0 {
				t.Errorf("%d bytes with %d: %d bytes, %d", len(b), len(ad), len(whole), e)
			}
			return
		}
		if e != api.OK || !bytes.Equal(whole, asWords(key, n, ad, b)) {
			t.Fatalf("%d bytes with %d: %d", len(b), len(ad), e)
		}
		opens(t, key, n, ad, whole, b)
		bit %= uint(8 * len(whole))
		whole[bit/8] ^= 1 << (bit % 8)
		refuses(t, "a bit", api.ErrTag, key, n, ad, whole)
	})
}

func BenchmarkSeal4000(b *testing.B) {
	key, ad, text := [32]byte(ordinary(57, 32)), ordinary(58, 32), ordinary(59, 4000)
	b.SetBytes(int64(len(text)))
	for b.Loop() {
		aead.Seal(key, 1, ad, text)
	}
}

func BenchmarkOpen4000(b *testing.B) {
	key, ad := [32]byte(ordinary(60, 32)), ordinary(61, 32)
	whole, _ := aead.Seal(key, 1, ad, ordinary(62, 4000))
	b.SetBytes(int64(len(whole)))
	for b.Loop() {
		aead.Open(key, 1, ad, whole)
	}
}
