package stream_test

import (
	"bytes"
	"crypto/sha256"
	"encoding/binary"
	"encoding/hex"
	"math"
	"math/rand"
	"slices"
	"testing"

	"signetring/api"
	"signetring/stream"
)

// last is the last count.
const last = math.MaxUint32

// ordinary: bytes of no special kind, the same ones at each run.
func ordinary(seed int64, n int) []byte {
	r := rand.New(rand.NewSource(seed))
	b := make([]byte, n)
	for i := range b {
		b[i] = byte(r.Intn(256))
	}
	return b
}

// sizes: of what is turned, at the edges of blocks, and of all.
var sizes = []int{0, 1, 2, 31, 63, 64, 65, 127, 128, 129, 191, 192, 193, 1000, 4000, 4095, 4096, 4097, 65471, 65472, 65473, 65535, 65536}

// tooMany: sizes of what is not turned.
var tooMany = []int{65537, 65538, 65599, 65600, 65601, 70000, 131072, 1 << 20}

// counts: the least ones, some whose bytes are full, and the last ones.
var counts = []uint32{0, 1, 2, 255, 256, 65535, 65536, 1<<24 - 1, 1 << 24, 1<<31 - 1, 1 << 31, last - 1, last}

// someKeys: keys of each kind.
func someKeys() [][32]byte {
	return [][32]byte{{}, {1}, {31: 1}, [32]byte(counted(32)), [32]byte(bytes.Repeat([]byte{255}, 32)), [32]byte(ordinary(1, 32))}
}

// someNonces: nonces of each kind.
func someNonces() [][12]byte {
	return [][12]byte{{}, {1}, {11: 1}, {3: 9, 7: 0x4a}, [12]byte(bytes.Repeat([]byte{255}, 12)), [12]byte(ordinary(2, 12))}
}

// counted: the bytes from 0 on.
func counted(n int) []byte {
	b := make([]byte, n)
	for i := range b {
		b[i] = byte(i)
	}
	return b
}

// asWords: a block as the document's words tell it.
func asWords(key [32]byte, nonce [12]byte, count uint32) [64]byte {
	text := append([]byte("expand 32-byte k"), key[:]...)
	text = binary.LittleEndian.AppendUint32(text, count)
	text = append(text, nonce[:]...)
	var first, w [16]uint32
	for i := range w {
		first[i] = binary.LittleEndian.Uint32(text[4*i:])
	}
	w = first
	step := func(sum, more, other int, n uint) {
		w[sum] += w[more]
		x := w[other] ^ w[sum]
		w[other] = x<<n | x>>(32-n)
	}
	for times := 0; times < 10; times++ {
		for _, q := range [][4]int{{0, 4, 8, 12}, {1, 5, 9, 13}, {2, 6, 10, 14}, {3, 7, 11, 15}, {0, 5, 10, 15}, {1, 6, 11, 12}, {2, 7, 8, 13}, {3, 4, 9, 14}} {
			a, b, c, d := q[0], q[1], q[2], q[3]
			step(a, b, d, 16)
			step(c, d, b, 12)
			step(a, b, d, 8)
			step(c, d, b, 7)
		}
	}
	var out []byte
	for i := range w {
		out = binary.LittleEndian.AppendUint32(out, first[i]+w[i])
	}
	return [64]byte(out)
}

// asWordsTurned: bytes that are turned as the document's words tell it; they are not too many.
func asWordsTurned(key [32]byte, nonce [12]byte, count uint32, b []byte) []byte {
	var all []byte
	for n := uint32(0); len(all) < len(b); n++ {
		block := asWords(key, nonce, count+n)
		all = append(all, block[:]...)
	}
	out := []byte{}
	for i, x := range b {
		out = append(out, x^all[i])
	}
	return out
}

// P5.1: RFC 8439's, 2.3.2 and A.1; and others at the edges of the count, as OpenSSL has them.
func TestKnownBlocks(t *testing.T) {
	full, other := [32]byte(bytes.Repeat([]byte{255}, 32)), [12]byte(bytes.Repeat([]byte{255}, 12))
	key, nonce := [32]byte(counted(32)), [12]byte{3: 9, 7: 0x4a}
	for _, c := range []struct {
		key   [32]byte
		nonce [12]byte
		count uint32
		block string
	}{
		{key, nonce, 1, "10f1e7e4d13b5915500fdd1fa32071c4c7d1f4c733c068030422aa9ac3d46c4ed2826446079faa0914c2d705d98b02a2b5129cd1de164eb9cbd083e8a2503c4e"},
		{[32]byte{}, [12]byte{}, 0, "76b8e0ada0f13d90405d6ae55386bd28bdd219b8a08ded1aa836efcc8b770dc7da41597c5157488d7724e03fb8d84a376a43b8f41518a11cc387b669b2ee6586"},
		{[32]byte{}, [12]byte{}, 1, "9f07e7be5551387a98ba977c732d080dcb0f29a048e3656912c6533e32ee7aed29b721769ce64e43d57133b074d839d531ed1f28510afb45ace10a1f4b794d6f"},
		{[32]byte{31: 1}, [12]byte{}, 1, "3aeb5224ecf849929b9d828db1ced4dd832025e8018b8160b82284f3c949aa5a8eca00bbb4a73bdad192b5c42f73f2fd4e273644c8b36125a64addeb006c13a0"},
		{[32]byte{1: 255}, [12]byte{}, 2, "72d54dfbf12ec44b362692df94137f328fea8da73990265ec1bbbea1ae9af0ca13b25aa26cb4a648cb9b9d1be65b2c0924a66c54d545ec1b7374f4872e99f096"},
		{[32]byte{}, [12]byte{11: 2}, 0, "c2c64d378cd536374ae204b9ef933fcd1a8b2288b3dfa49672ab765b54ee27c78a970e0e955c14f3a88e741b97c286f75f8fc299e8148362fa198a39531bed6d"},
		{key, nonce, 0, "8adc91fd9ff4f0f51b0fad50ff15d637e40efda206cc52c783a74200503c1582cd9833367d0a54d57d3c9e998f490ee69ca34c1ff9e939a75584c52d690a35d4"},
		{key, nonce, 65536, "0df22132274e314243c4ef17233fabc50f46abc57066e7952e9d2ba00b355ac6cb0c12b31585a3c3828d695d2355e5949f1af3e72e164f1748a79bd2cd7c4084"},
		{key, nonce, 1 << 31, "4c76f034662332641d91b481c074c7454e969ecae52c92c9df756ba56a7cd932d4750c0d1e0609fc44ee6681cd75bdad5a82f37b3586029e9a89a64726396f47"},
		{key, nonce, last - 1, "bed7e9fb1985cf676d5b3eee7cdd741282a8e6703109423c0c15c551a64d374f8a897645cf2688709dc061487d111682e4be93a05f18df4a1d292f8ca8b5f460"},
		{key, nonce, last, "ff2941b8d740f6cbb50936bf997ebd5218cb108dc53f41c64841d0218167430ca03b770ca74ccb642a28194d1dedd2ed13151e25ec5d7faeb6d060bfb7e6b146"},
		{full, other, 0, "d6e63495eafed7fc3bf8e7c419fa77be8234a6a49df517ebab06c8f65d9f7a17d3a64d4b97c911e6995b65c79336220cb63b703e25d3d45f5fee90a37bbe0535"},
		{full, other, last, "d72b21cfa4b6b0c41d61f62b8a11159c6a4f63bc56c2035796c7ad37811121bbec56d54a530f3a933dd28a50feb23bfaf64f405be985f3718bdf4683e96be749"},
	} {
		got := stream.Block(c.key, c.nonce, c.count)
		if hex.EncodeToString(got[:]) != c.block {
			t.Errorf("Block(%x, %x, %d) = %x, not %s", c.key, c.nonce, c.count, got, c.block)
		}
	}
}

// P5.1
func TestBlockAsWords(t *testing.T) {
	for _, key := range someKeys() {
		for _, nonce := range someNonces() {
			for _, count := range counts {
				if got, want := stream.Block(key, nonce, count), asWords(key, nonce, count); got != want {
					t.Errorf("Block(%x, %x, %d) = %x, not %x", key, nonce, count, got, want)
				}
			}
		}
	}
	r := rand.New(rand.NewSource(3))
	for range 2000 {
		b := ordinary(r.Int63(), 44)
		key, nonce, count := [32]byte(b), [12]byte(b[32:]), r.Uint32()
		if stream.Block(key, nonce, count) != asWords(key, nonce, count) {
			t.Errorf("Block(%x, %x, %d)", key, nonce, count)
		}
	}
}

// P5.1: each bit of the key, of the nonce and of the count has a place of its own.
func TestBlockOfOtherBit(t *testing.T) {
	seen := map[[64]byte]int{stream.Block([32]byte{}, [12]byte{}, 0): -1}
	for i := range 256 + 96 + 32 {
		var b [48]byte
		b[i/8] = 1 << (i % 8)
		key, nonce, count := [32]byte(b[:32]), [12]byte(b[32:44]), binary.LittleEndian.Uint32(b[44:])
		got := stream.Block(key, nonce, count)
		if was, ok := seen[got]; ok {
			t.Errorf("bits %d and %d: one block", was, i)
		}
		if seen[got] = i; got != asWords(key, nonce, count) {
			t.Errorf("bit %d: %x", i, got)
		}
	}
}

// P5.2: RFC 8439's, 2.4.2.
func TestKnownText(t *testing.T) {
	text := "Ladies and Gentlemen of the class of '99: If I could offer you only one tip for the future, sunscreen would be it."
	want := "6e2e359a2568f98041ba0728dd0d6981e97e7aec1d4360c20a27afccfd9fae0bf91b65c5524733ab8f593dabcd62b3571639d624e65152ab8f530c359f0861d807ca0dbf500d6a6156a38e088a22b65e52bc514d16ccf806818ce91ab77937365af90bbf74a35be6b40b8eedf2785e42874d"
	got, e := stream.Xor([32]byte(counted(32)), [12]byte{7: 0x4a}, 1, []byte(text))
	if e != api.OK || hex.EncodeToString(got) != want {
		t.Errorf("%x, %d", got, e)
	}
}

// P5.2: as many bytes 0 as may be turned, by the digests of what OpenSSL makes of them; the last ones end with the last count.
func TestKnownGreatTexts(t *testing.T) {
	for count, want := range map[uint32]string{
		0:           "d000e990fa37d4f916ad9c9fce527d0e26703d8035248989088654d5544270aa",
		1:           "febd063d10280503126cfc318b675bad737317df84bd79f03932cbfbc9b95d48",
		last - 1023: "9d1877bbb58c2da394ef3c2687193ba8c35cd9660a3ab681f601b89914457ee5",
	} {
		got, e := stream.Xor([32]byte(counted(32)), [12]byte(counted(12)), count, make([]byte, 65536))
		if sum := sha256.Sum256(got); e != api.OK || hex.EncodeToString(sum[:]) != want {
			t.Errorf("from %d on: %x, %d", count, sum, e)
		}
	}
}

// P5.2
func TestXorAsWords(t *testing.T) {
	key, nonce := [32]byte(ordinary(4, 32)), [12]byte(ordinary(5, 12))
	for _, count := range []uint32{0, 1, 77, 1<<31 - 1, last - 1023} {
		for _, n := range sizes {
			b := ordinary(int64(n), n)
			got, e := stream.Xor(key, nonce, count, b)
			if e != api.OK || !bytes.Equal(got, asWordsTurned(key, nonce, count, b)) {
				t.Errorf("%d bytes from %d on: %d bytes, %d", n, count, len(got), e)
			}
		}
	}
}

// P5.2: each small size, with each kind of key and nonce.
func TestXorOfEachSize(t *testing.T) {
	b := ordinary(6, 300)
	for _, key := range someKeys() {
		for _, nonce := range someNonces() {
			all := asWordsTurned(key, nonce, 9, b)
			for n := range len(b) + 1 {
				if got, e := stream.Xor(key, nonce, 9, b[:n]); e != api.OK || !bytes.Equal(got, all[:n]) {
					t.Fatalf("%d bytes by %x, %x: %x, %d", n, key, nonce, got, e)
				}
			}
		}
	}
}

// P5.2: bytes 0 are turned to those of the blocks.
func TestXorOfZeros(t *testing.T) {
	key, nonce := [32]byte(ordinary(7, 32)), [12]byte(ordinary(8, 12))
	for _, count := range []uint32{0, 1, last - 2} {
		got, e := stream.Xor(key, nonce, count, make([]byte, 192))
		var want []byte
		for i := range uint32(3) {
			block := stream.Block(key, nonce, count+i)
			want = append(want, block[:]...)
		}
		if e != api.OK || !bytes.Equal(got, want) {
			t.Errorf("from %d on: %x, %d", count, got, e)
		}
	}
}

// P5.2, R3: nothing is told beside an error.
func TestXorOfTooMany(t *testing.T) {
	for _, count := range []uint32{0, 1, 1 << 31} {
		for _, n := range tooMany {
			if got, e := stream.Xor([32]byte{1}, [12]byte{1}, count, make([]byte, n)); e != api.ErrBig || len(got) != 0 {
				t.Errorf("%d bytes from %d on: %d bytes, %d", n, count, len(got), e)
			}
		}
	}
}

// P5.2, R3: so many blocks as there are counts left, and no byte more.
func TestXorAtTheEnd(t *testing.T) {
	key, nonce := [32]byte(ordinary(9, 32)), [12]byte(ordinary(10, 12))
	for _, left := range []int{1, 2, 3, 4, 63, 64, 65, 1000, 1022, 1023, 1024} {
		count := uint32(1<<32 - left)
		for _, n := range []int{0, 1, 63, 64, 65, 64*left - 65, 64*left - 64, 64*left - 63, 64*left - 1, 64 * left, 64*left + 1, 64*left + 63, 64*left + 64, 64*left + 65, 65535, 65536} {
			if n < 0 || n > 65536 {
				continue
			}
			b := ordinary(int64(n), n)
			got, e := stream.Xor(key, nonce, count, b)
			if n > 64*left && (e != api.ErrEnd || len(got) != 0) {
				t.Errorf("%d counts left, %d bytes: %d bytes, %d", left, n, len(got), e)
			}
			if n <= 64*left && (e != api.OK || !bytes.Equal(got, asWordsTurned(key, nonce, count, b))) {
				t.Errorf("%d counts left, %d bytes: %d", left, n, e)
			}
		}
	}
}

// P5.2: the last count with each size that one block turns, and those behind it.
func TestXorOfLastCount(t *testing.T) {
	key, nonce := [32]byte(ordinary(11, 32)), [12]byte(ordinary(12, 12))
	b, block := ordinary(13, 200), asWords(key, nonce, last)
	for n := range len(b) + 1 {
		got, e := stream.Xor(key, nonce, last, b[:n])
		if n > 64 {
			if e != api.ErrEnd || len(got) != 0 {
				t.Errorf("%d bytes: %d bytes, %d", n, len(got), e)
			}
			continue
		}
		if e != api.OK || len(got) != n {
			t.Fatalf("%d bytes: %d bytes, %d", n, len(got), e)
		}
		for i, x := range got {
			if x != b[i]^block[i] {
				t.Errorf("byte %d of %d", i, n)
			}
		}
	}
}

// P5.2, R2: where both errors would be, the first one is told.
func TestXorOfTooManyAtTheEnd(t *testing.T) {
	for _, n := range tooMany {
		for _, count := range []uint32{last, last - 1, last - 1022, last - 1023, last - 1024} {
			if got, e := stream.Xor([32]byte{}, [12]byte{}, count, make([]byte, n)); e != api.ErrBig || len(got) != 0 {
				t.Errorf("%d bytes from %d on: %d bytes, %d", n, count, len(got), e)
			}
		}
	}
}

// P5.2, R8: no bytes need no block, whatever the count is.
func TestXorOfNoBytes(t *testing.T) {
	for _, count := range counts {
		for _, b := range [][]byte{nil, {}, make([]byte, 0, 100)} {
			if got, e := stream.Xor([32]byte{1}, [12]byte{1}, count, b); e != api.OK || len(got) != 0 {
				t.Errorf("from %d on: %x, %d", count, got, e)
			}
		}
	}
}

// P5.3
func TestTurnedTwice(t *testing.T) {
	for _, key := range someKeys() {
		for _, nonce := range someNonces() {
			for _, n := range []int{0, 1, 63, 64, 65, 128, 1000} {
				b := ordinary(int64(n), n)
				count := uint32(1<<32 - (n+63)/64 - 1)
				once, e := stream.Xor(key, nonce, count, b)
				twice, f := stream.Xor(key, nonce, count, once)
				if e != api.OK || f != api.OK || !bytes.Equal(twice, b) {
					t.Errorf("%d bytes by %x, %x: %d, %d", n, key, nonce, e, f)
				}
				if n > 32 && bytes.Equal(once, b) {
					t.Errorf("%d bytes by %x, %x are not turned", n, key, nonce)
				}
			}
		}
	}
	for _, n := range sizes {
		b := ordinary(14, n)
		once, e := stream.Xor([32]byte{2}, [12]byte{3}, 4, b)
		twice, f := stream.Xor([32]byte{2}, [12]byte{3}, 4, once)
		if e != api.OK || f != api.OK || !bytes.Equal(twice, b) {
			t.Errorf("%d bytes: %d, %d", n, e, f)
		}
	}
}

// check: bytes in pieces of so many blocks, the last one of what is left, are turned as all at once.
func check(t *testing.T, count uint32, b []byte, pieces ...int) {
	t.Helper()
	key, nonce := [32]byte(ordinary(15, 32)), [12]byte(ordinary(16, 12))
	want, e := stream.Xor(key, nonce, count, b)
	if e != api.OK {
		t.Fatalf("%d bytes from %d on: %d", len(b), count, e)
	}
	var got []byte
	at := count
	for _, n := range append(pieces, math.MaxInt/64) {
		piece := b[len(got):]
		piece = piece[:min(len(piece), 64*n)]
		out, e := stream.Xor(key, nonce, at, piece)
		if e != api.OK {
			t.Fatalf("pieces %d of %d bytes from %d on: %d", pieces, len(b), count, e)
		}
		got, at = append(got, out...), at+uint32(n)
	}
	if !bytes.Equal(got, want) {
		t.Errorf("pieces %d of %d bytes from %d on", pieces, len(b), count)
	}
}

// P5.3
func TestPieces(t *testing.T) {
	for _, n := range []int{0, 1, 64, 65, 640, 650, 65535, 65536} {
		b := ordinary(17, n)
		whole := n / 64
		for _, count := range []uint32{0, 1, last - 1024} {
			check(t, count, b)
			for _, cut := range []int{0, 1, 2, 5, 9, 10, 511, 1023, 1024} {
				if cut <= whole {
					check(t, count, b, cut)
					check(t, count, b, cut/2, cut-cut/2)
				}
			}
			check(t, count, b, slices.Repeat([]int{1}, whole)...)
		}
	}
}

// P5.3: more bytes than one call turns, piece by piece, up to the last count.
func TestPiecesToTheEnd(t *testing.T) {
	key, nonce := [32]byte{1}, [12]byte{2}
	b := ordinary(18, 3*65536)
	from := uint32(1<<32 - 3*1024)
	var once, again []byte
	for i := range 3 {
		out, e := stream.Xor(key, nonce, from+uint32(1024*i), b[65536*i:][:65536])
		if e != api.OK {
			t.Fatalf("piece %d: %d", i, e)
		}
		once = append(once, out...)
	}
	for i := range 3 * 1024 {
		out, e := stream.Xor(key, nonce, from+uint32(i), once[64*i:][:64])
		if e != api.OK {
			t.Fatalf("block %d: %d", i, e)
		}
		again = append(again, out...)
	}
	if !bytes.Equal(once, asWordsTurned(key, nonce, from, b)) || !bytes.Equal(again, b) {
		t.Error("pieces are turned otherwise")
	}
}

// R6: what lies behind an argument's end stays, too.
func TestArgumentsStay(t *testing.T) {
	for _, n := range append(slices.Clone(sizes), tooMany...) {
		for _, count := range []uint32{0, 1, last} {
			all, key, nonce := ordinary(19, n+100), [32]byte(ordinary(20, 32)), [12]byte(ordinary(21, 12))
			one, e := stream.Xor(key, nonce, count, all[:n])
			two, f := stream.Xor(key, nonce, count, all[:n:n])
			stream.Block(key, nonce, count)
			if !bytes.Equal(all, ordinary(19, n+100)) || key != [32]byte(ordinary(20, 32)) || nonce != [12]byte(ordinary(21, 12)) {
				t.Fatalf("%d bytes from %d on were changed", n, count)
			}
			if e != f || !bytes.Equal(one, two) {
				t.Errorf("%d bytes from %d on, twice: %d, %d", n, count, e, f)
			}
		}
	}
}

// R6
func TestAnswersAreNew(t *testing.T) {
	for _, n := range sizes {
		b := ordinary(22, n)
		one, _ := stream.Xor([32]byte{1}, [12]byte{1}, 1, b)
		two, _ := stream.Xor([32]byte{1}, [12]byte{1}, 1, b)
		was := slices.Clone(two)
		clear(one[:cap(one)])
		if !bytes.Equal(b, ordinary(22, n)) || !bytes.Equal(two, was) {
			t.Errorf("%d bytes: an answer was written over, and more has changed", n)
		}
		clear(b)
		if !bytes.Equal(two, was) {
			t.Errorf("%d bytes: the argument was written over, and the answer has changed", n)
		}
		three, _ := stream.Xor([32]byte{1}, [12]byte{1}, 1, ordinary(22, n))
		if !bytes.Equal(three, was) {
			t.Errorf("%d bytes: a later answer has changed", n)
		}
	}
}

// R4: calls ahead of a call say nothing.
func TestAnyOrder(t *testing.T) {
	key, nonce, b := [32]byte{5}, [12]byte{6}, ordinary(23, 100)
	block := stream.Block(key, nonce, 7)
	turned, _ := stream.Xor(key, nonce, 7, b)
	for _, n := range sizes {
		stream.Xor([32]byte{8}, nonce, last, make([]byte, n))
		stream.Xor(key, [12]byte{9}, 7, make([]byte, n))
		if got, e := stream.Xor(key, nonce, 7, b); e != api.OK || !bytes.Equal(got, turned) || stream.Block(key, nonce, 7) != block {
			t.Errorf("behind %d bytes: %x, %d", n, got, e)
		}
	}
}

func FuzzAsWords(f *testing.F) {
	f.Add([]byte{}, []byte{}, uint32(0), []byte{})
	f.Add(counted(32), []byte{0, 0, 0, 9, 0, 0, 0, 0x4a}, uint32(1), []byte("text"))
	f.Add(ordinary(24, 32), ordinary(25, 12), uint32(last), ordinary(26, 65))
	f.Add(ordinary(27, 32), ordinary(28, 12), uint32(last-1), ordinary(29, 65537))
	f.Fuzz(func(t *testing.T, k, n []byte, count uint32, b []byte) {
		var key [32]byte
		var nonce [12]byte
		copy(key[:], k)
		copy(nonce[:], n)
		if stream.Block(key, nonce, count) != asWords(key, nonce, count) {
			t.Error("Block")
		}
		want := api.OK
		if len(b) > 65536 {
			want = api.ErrBig
		} else if len(b) > 64*(1<<32-int(count)) {
			want = api.ErrEnd
		}
		got, e := stream.Xor(key, nonce, count, b)
		if e != want || e != api.OK && len(got) != 0 {
			t.Fatalf("%d bytes from %d on: %d, not %d", len(b), count, e, want)
		}
		if e != api.OK {
			return
		}
		if !bytes.Equal(got, asWordsTurned(key, nonce, count, b)) {
			t.Error("Xor")
		}
		if back, e := stream.Xor(key, nonce, count, got); e != api.OK || !bytes.Equal(back, b) {
			t.Error("back")
		}
	})
}

func BenchmarkBlock(b *testing.B) {
	key, nonce := [32]byte(ordinary(30, 32)), [12]byte(ordinary(31, 12))
	for b.Loop() {
		stream.Block(key, nonce, 1)
	}
}

func BenchmarkXor4000(b *testing.B) {
	key, nonce, text := [32]byte(ordinary(32, 32)), [12]byte(ordinary(33, 12)), ordinary(34, 4000)
	b.SetBytes(int64(len(text)))
	for b.Loop() {
		stream.Xor(key, nonce, 1, text)
	}
}
