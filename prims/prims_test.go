package prims_test

import (
	"encoding/binary"
	"math"
	"math/rand"
	"slices"
	"strings"
	"testing"
	"unsafe"

	"signetring/api"
	"signetring/prims"
	"signetring/sha"
	"signetring/term"
)

const (
	mostSealed = 60000 // bytes of a text, or of ad, of a box of bytes
	mostPart   = 4000  // bytes of a part of a term
)

// Numbers of boxes, ordinary ones and edges.
var numbers = []uint64{0, 1, 2, 7, 255, 256, 65535, 65536, math.MaxUint32, math.MaxUint32 + 1, math.MaxInt64, math.MaxInt64 + 1, math.MaxUint64 - 1, math.MaxUint64}

// How many keys there can't be: those that come to 1, 2 or 3 in fewer bits among them.
var noCounts = []int{0, 4, 5, -1, -2, -3, 255, 256, 257, 258, 259, 1<<32 + 1, 1<<32 + 3, math.MaxInt, math.MinInt, math.MinInt + 1}

// ordinary: bytes of no special kind, the same ones at each run.
func ordinary(seed int64, n int) string {
	r := rand.New(rand.NewSource(seed))
	b := make([]byte, n)
	for i := range b {
		b[i] = byte(r.Intn(256))
	}
	return string(b)
}

func key(seed int64) string { return ordinary(seed, api.KeySize) }

// flipped: with one bit turned.
func flipped(s string, bit int) string {
	b := []byte(s)
	b[bit/8] ^= 1 << (bit % 8)
	return string(b)
}

// kind: prims of bytes, or of terms of a new table.
type kind struct {
	name string
	prims.Prims
	most int // bytes of a text, or of ad
}

func both() []kind {
	return []kind{{"of bytes", prims.Real(), mostSealed}, {"of terms", prims.Symbol(term.New()), mostPart}}
}

// notOpened: Open answers this error, and no text (R3).
func notOpened(t *testing.T, p prims.Prims, want api.Errno, key string, n uint64, ad, box string) {
	t.Helper()
	if text, no := p.Open(key, n, ad, box); text != "" || no != want {
		t.Errorf("Open of %.40x (%d bytes), key %.40x, %d, ad %.40q: %.40q, %d; not \"\", %d", box, len(box), key, n, ad, text, no, want)
	}
}

// opened: Open answers this text.
func opened(t *testing.T, p prims.Prims, want, key string, n uint64, ad, box string) {
	t.Helper()
	if text, no := p.Open(key, n, ad, box); text != want || no != api.OK {
		t.Errorf("Open of %.40x (%d bytes), key %.40x, %d, ad %.40q: %.40q (%d bytes), %d; not %.40q", box, len(box), key, n, ad, text, len(text), no, want)
	}
}

// notShared: Dh answers that there is nothing, and nothing beside that (R3).
func notShared(t *testing.T, p prims.Prims, secret, pub string) {
	t.Helper()
	if x, is := p.Dh(secret, pub); x != "" || is {
		t.Errorf("Dh of %.40x and %.40x: %.40x, %t", secret, pub, x, is)
	}
}

// The chapter's example.
func TestExample(t *testing.T) {
	sum := sha.Sum([]byte("abc"))
	if h := prims.Real().Hash("a", "bc"); h != string(sum[:]) {
		t.Errorf("of bytes: %x", h)
	}
	p := prims.Symbol(term.New())
	if a, b := p.Hash("a", "bc"), p.Hash("ab", "c"); a == b || a == "" || b == "" {
		t.Errorf("of terms: %q, %q", a, b)
	}
}

// P11.3: two secrets, each with the other's public key; and another one's is another one.
func TestBothShare(t *testing.T) {
	for _, p := range both() {
		seen := map[string]bool{}
		for i := range int64(12) {
			for j := range i + 1 {
				a, b := key(100+i), key(100+j)
				x, is := p.Dh(a, p.Pub(b))
				y, too := p.Dh(b, p.Pub(a))
				if !is || !too || x != y || len(x) != api.KeySize || seen[x] {
					t.Errorf("%s, %d and %d: %x, %t; %x, %t", p.name, i, j, x, is, y, too)
				}
				seen[x] = true
			}
		}
		if len(seen) != 78 {
			t.Errorf("%s: %d shared keys", p.name, len(seen))
		}
	}
}

// P11.3: what is sealed is opened, by the same key, number and ad, and by no other one of each.
func TestBothOpen(t *testing.T) {
	for _, p := range both() {
		k := p.Keys(key(1), "", 2)
		for i, n := range numbers {
			for _, text := range []string{"", "a", "some text", ordinary(2, 64), ordinary(3, 1000), ordinary(4, p.most)} {
				for _, ad := range []string{"", "ad", "\x00", ordinary(5, p.most)} {
					box := p.Seal(k[0], n, ad, text)
					opened(t, p, text, k[0], n, ad, box)
					notOpened(t, p, api.ErrTag, k[1], n, ad, box)
					notOpened(t, p, api.ErrTag, k[0], numbers[(i+1)%len(numbers)], ad, box)
					notOpened(t, p, api.ErrTag, k[0], n+1, ad, box)
					notOpened(t, p, api.ErrTag, k[0], n, "another ad", box)
				}
			}
		}
	}
}

// P11.3: of nothing that is too long, and of all that is not.
func TestBothTooLong(t *testing.T) {
	for _, p := range both() {
		k := key(1)
		for _, n := range []int{p.most + 1, p.most + 2, 2 * p.most, 65536 + 1} {
			long := ordinary(2, n)
			for _, c := range [][2]string{{long, ""}, {long, "text"}, {"", long}, {"ad", long}, {long, long}} {
				if box := p.Seal(k, 1, c[0], c[1]); box != "" {
					t.Errorf("%s, ad of %d and text of %d bytes: a box of %d", p.name, len(c[0]), len(c[1]), len(box))
				}
			}
		}
		whole := ordinary(3, p.most)
		opened(t, p, whole, k, 1, whole, p.Seal(k, 1, whole, whole))
	}
}

// P11.1, P11.2: keys of 1 to 3, fewer as a beginning of more, all apart, and none of any other count.
func TestBothKeys(t *testing.T) {
	for _, p := range both() {
		seen := map[string]bool{}
		for i := range int64(8) {
			for _, text := range []string{"", "a", "b", ordinary(i, 100)} {
				all := p.Keys(key(i), text, 3)
				if len(all) != 3 {
					t.Fatalf("%s: %d keys", p.name, len(all))
				}
				for n := 1; n <= 3; n++ {
					if l := p.Keys(key(i), text, n); !slices.Equal(l, all[:n]) {
						t.Errorf("%s, %d of them: %x, not %x", p.name, n, l, all[:n])
					}
				}
				for _, n := range noCounts {
					if l := p.Keys(key(i), text, n); len(l) != 0 {
						t.Errorf("%s: Keys of %d: %d of them", p.name, n, len(l))
					}
				}
				for _, k := range all {
					if len(k) != api.KeySize || seen[k] {
						t.Errorf("%s: a key %x, that is none, or came ahead", p.name, k)
					}
					seen[k] = true
				}
			}
		}
	}
}

// step: one call, by chance, of texts that came ahead; what it answered, as texts.
func step(p prims.Prims, r *rand.Rand, texts []string) []string {
	one := func() string { return texts[r.Intn(len(texts))] }
	a, b, c, n, i := one(), one(), one(), r.Intn(6)-1, r.Intn(6)
	switch i {
	case 0:
		return []string{p.Pub(a)}
	case 1:
		s, is := p.Dh(a, b)
		if !is && s != "" {
			s = "a text beside false: " + s
		}
		return []string{s}
	case 2:
		return []string{p.Hash(a, b)}
	case 3:
		return p.Keys(a, b, n)
	case 4:
		return []string{p.Seal(a, uint64(n+1), b, c)}
	}
	s, e := p.Open(a, uint64(n+1), b, c)
	return []string{s, string(binary.BigEndian.AppendUint64(nil, uint64(e)))}
}

// R4: prims that are made twice answer alike, and those of bytes keep nothing from call to call.
func TestBothMadeTwice(t *testing.T) {
	for seed := range int64(20) {
		first, second := both(), both()
		for i := range first {
			r, s := rand.New(rand.NewSource(seed)), rand.New(rand.NewSource(seed))
			texts := []string{"", "ad", key(seed), key(seed + 1), key(seed)[:31]}
			for range 200 {
				a, b := step(first[i], r, texts), step(second[i], s, texts)
				if !slices.Equal(a, b) {
					t.Fatalf("%s: %x and %x", first[i].name, a, b)
				}
				texts = append(texts, a...)
			}
		}
		p, q := prims.Real(), prims.Real()
		step(p, rand.New(rand.NewSource(seed)), []string{key(1), key(2)})
		if p != q || p.Hash("a", "b") != q.Hash("a", "b") || !slices.Equal(p.Keys(key(1), "", 3), q.Keys(key(1), "", 3)) {
			t.Error("of bytes: two that are made hold other things")
		}
	}
}

// R4: two of one table are one and the same.
func TestOneTable(t *testing.T) {
	x := term.New()
	p, q := prims.Symbol(x), prims.Symbol(x)
	box := p.Seal("a key", 7, "ad", "text")
	opened(t, q, "text", "a key", 7, "ad", box)
	if q.Seal("a key", 7, "ad", "text") != box || p.Hash("a", "b") != q.Hash("a", "b") || p.Pub("a") != q.Pub("a") || len(x.All()) != 3 {
		t.Errorf("%d terms", len(x.All()))
	}
	if p != q {
		t.Error("two of one table are not the same")
	}
	if y := prims.Symbol(term.New()); p == y {
		t.Error("two of two tables are the same")
	}
}

// P11.1, P11.2: what is made is neither nil nor of the other kind.
func TestMade(t *testing.T) {
	if prims.Real() == nil || prims.Symbol(term.New()) == nil || prims.Symbol(new(term.Table)) == nil {
		t.Fatal("nil, where there is something")
	}
	if p := prims.Symbol(nil); p != nil {
		t.Errorf("of no table: %v, not nil", p)
	}
	var table *term.Table
	if p := prims.Symbol(table); p != nil {
		t.Errorf("of a table that is nil: %v, not nil", p)
	}
	if prims.Real() == prims.Symbol(term.New()) {
		t.Error("both kinds are one")
	}
}

// loose: a text in bytes that are written over later.
func loose(s string) (string, []byte) {
	b := []byte(s)
	return unsafe.String(unsafe.SliceData(b), len(b)), b
}

// use: a call of texts in bytes that are written over behind it; and these are as they were, right behind it (R6).
func use(t *testing.T, call func(s ...string), l ...string) {
	t.Helper()
	var texts []string
	var bytes [][]byte
	for _, s := range l {
		text, b := loose(s)
		texts, bytes = append(texts, text), append(bytes, b)
	}
	call(texts...)
	for i, b := range bytes {
		if string(b) != l[i] {
			t.Errorf("%q was handed in, and is %q", l[i], b)
		}
		for i := range b {
			b[i] ^= 255
		}
	}
}

// R6: what is handed in is neither changed nor kept.
func TestArgumentsStay(t *testing.T) {
	for i, p := range both() {
		other := both()[i]
		k := other.Keys(key(1), "text", 3)
		pub, boxed := other.Pub(key(2)), other.Seal(k[0], 7, "ad", "the text")
		hash := other.Hash("a", "bc")
		var answers []string
		use(t, func(s ...string) { answers = append(answers, p.Keys(s[0], s[1], 3)...) }, key(1), "text")
		use(t, func(s ...string) { answers = append(answers, p.Pub(s[0])) }, key(2))
		use(t, func(s ...string) { answers = append(answers, p.Seal(s[0], 7, s[1], s[2])) }, k[0], "ad", "the text")
		use(t, func(s ...string) { answers = append(answers, p.Hash(s[0], s[1])) }, "a", "bc")
		use(t, func(s ...string) {
			text, no := p.Open(s[0], 7, s[1], s[2])
			if no != api.OK {
				t.Errorf("%s: %d", p.name, no)
			}
			answers = append(answers, text)
		}, k[0], "ad", boxed)
		if want := append(slices.Clone(k), pub, boxed, hash, "the text"); !slices.Equal(answers, want) {
			t.Errorf("%s: %x, not %x", p.name, answers, want)
		}
		use(t, func(s ...string) { p.Dh(s[0], s[1]) }, key(1), pub)
		x, _ := p.Dh(key(1), pub)
		if y, _ := other.Dh(key(1), pub); x != y || x == "" {
			t.Errorf("%s: Dh %x, not %x", p.name, x, y)
		}
	}
}

// R6: writing over the list that Keys answered, and over what lies behind its end, changes no other answer.
func TestKeysAreNew(t *testing.T) {
	for _, p := range both() {
		for n := 1; n <= 3; n++ {
			one, two := p.Keys(key(1), "text", n), p.Keys(key(1), "text", n)
			want := slices.Clone(two)
			one = one[:cap(one)]
			for i := range one {
				one[i] = "written over"
			}
			if three := p.Keys(key(1), "text", n); !slices.Equal(two, want) || !slices.Equal(three, want) {
				t.Errorf("%s: a list was written over, and another one has changed", p.name)
			}
		}
	}
}

// shares: does one text lie in the memory of the other?
func shares(a, b string) bool {
	if a == "" || b == "" {
		return false
	}
	from, other := uintptr(unsafe.Pointer(unsafe.StringData(a))), uintptr(unsafe.Pointer(unsafe.StringData(b)))
	return from < other+uintptr(len(b)) && other < from+uintptr(len(a))
}

// R6: texts that are answered are memory of their own.
func TestTextsAreNew(t *testing.T) {
	for _, p := range both() {
		secret, text, ad := strings.Clone(key(1)), strings.Clone("some text"), strings.Clone("an ad")
		texts := []string{secret, text, ad}
		for range 2 {
			pub := p.Pub(secret)
			shared, _ := p.Dh(secret, pub)
			box := p.Seal(secret, 1<<40, ad, text)
			texts = append(texts, pub, shared, box, p.Hash(text, ""), p.Hash("", text))
			texts = append(texts, p.Keys(secret, text, 3)...)
			for range 2 {
				got, _ := p.Open(secret, 1<<40, ad, box)
				texts = append(texts, got)
			}
		}
		for i, a := range texts {
			for _, b := range texts[:i] {
				if shares(a, b) {
					t.Fatalf("%s: %q and %q lie in one memory", p.name, a, b)
				}
			}
		}
	}
}
