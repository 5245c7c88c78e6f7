package prims_test

import (
	"encoding/binary"
	"math/rand"
	"slices"
	"strings"
	"testing"

	"signetring/api"
	"signetring/codec"
	"signetring/prims"
	"signetring/term"
)

// named: the name of that number in a table.
func named(n int) string {
	return "term" + strings.Repeat("\x00", 20) + string(binary.BigEndian.AppendUint64(nil, uint64(n)))
}

// twin: prims of a table, and another table, of which its own calls make what the chapter's words ask for: both have to stay alike.
type twin struct {
	*testing.T
	mine prims.Prims
	is   *term.Table
	want *term.Table
}

func newTwin(t *testing.T) *twin {
	is := term.New()
	return &twin{t, prims.Symbol(is), is, term.New()}
}

// same: what was answered, and what had to be.
func (w *twin) same(call, got, want string) string {
	w.Helper()
	if got != want {
		w.Fatalf("%s: %q, not %q", call, got, want)
	}
	return got
}

// atom: a term that both tables have by hand.
func (w *twin) atom(s string) string {
	w.Helper()
	return w.same("Atom", w.is.Atom(s), w.want.Atom(s))
}

// byHand: a Hash that both tables have by hand.
func (w *twin) byHand(l ...string) string {
	w.Helper()
	return w.same("the table's Hash", w.is.Hash(l...), w.want.Hash(l...))
}

func (w *twin) pub(secret string) string {
	w.Helper()
	return w.same("Pub", w.mine.Pub(secret), w.want.Pub(secret))
}

func (w *twin) dh(secret, pub string) string {
	w.Helper()
	got, is := w.mine.Dh(secret, pub)
	want, ok := w.want.Dh(secret, pub)
	if is != ok || is != (got != "") {
		w.Fatalf("Dh of %.40q and %.40q: %q, %t; not %q, %t", secret, pub, got, is, want, ok)
	}
	return w.same("Dh", got, want)
}

func (w *twin) hash(a, b string) string {
	w.Helper()
	return w.same("Hash", w.mine.Hash(a, b), w.want.Hash("hash", a, b))
}

func (w *twin) keys(key, b string, n int) []string {
	w.Helper()
	var want []string
	if 1 <= n && n <= 3 && len(key) <= mostPart && len(b) <= mostPart {
		for _, number := range []string{"\x01", "\x02", "\x03"}[:n] {
			want = append(want, w.want.Hash("key", number, key, b))
		}
	}
	got := w.mine.Keys(key, b, n)
	if !slices.Equal(got, want) {
		w.Fatalf("Keys of %.40q and %.40q, %d: %q, not %q", key, b, n, got, want)
	}
	return got
}

func (w *twin) seal(key string, n uint64, ad, text string) string {
	w.Helper()
	return w.same("Seal", w.mine.Seal(key, n, ad, text), w.want.Seal(key, n, ad, text))
}

func (w *twin) open(key string, n uint64, ad, box string) {
	w.Helper()
	kind, l, _ := w.want.Parts(box)
	if kind == 5 && l[0] == key && l[1] == codec.Num(n) && l[2] == ad {
		opened(w.T, w.mine, l[3], key, n, ad, box)
		return
	}
	notOpened(w.T, w.mine, api.ErrTag, key, n, ad, box)
}

// stands: both tables have the same terms.
func (w *twin) stands() {
	w.Helper()
	is, want := w.is.All(), w.want.All()
	if !slices.Equal(is, want) {
		w.Fatalf("%d terms, not %d", len(is), len(want))
	}
	for _, name := range is {
		k, l, _ := w.is.Parts(name)
		if c, m, _ := w.want.Parts(name); k != c || !slices.Equal(l, m) {
			w.Fatalf("%x: %d of %.80q, not %d of %.80q", name, k, l, c, m)
		}
	}
}

// P11.2: what each call makes, term by term.
func TestSymbolTerms(t *testing.T) {
	x := term.New()
	p := prims.Symbol(x)
	var names []string
	names = append(names, p.Pub("x"), p.Pub("y"))
	shared, _ := p.Dh("y", names[0])
	names = append(names, shared, p.Hash("a", "bc"))
	names = append(names, p.Keys("k", "b", 3)...)
	names = append(names, p.Seal("k", 258, "ad", "text"))
	for i, want := range []struct {
		kind  byte
		parts []string
	}{
		{term.Pub, []string{"x"}}, {term.Pub, []string{"y"}}, {term.Dh, []string{"x", "y"}}, {term.Hash, []string{"hash", "a", "bc"}},
		{term.Hash, []string{"key", "\x01", "k", "b"}}, {term.Hash, []string{"key", "\x02", "k", "b"}}, {term.Hash, []string{"key", "\x03", "k", "b"}},
		{term.Sealed, []string{"k", "\x01\x02", "ad", "text"}},
	} {
		kind, l, ok := x.Parts(names[i])
		if names[i] != named(i+1) || kind != want.kind || !slices.Equal(l, want.parts) || !ok {
			t.Errorf("term %d: %q, %d, %q; not %d, %q", i+1, names[i], kind, l, want.kind, want.parts)
		}
	}
	if len(names) != 8 || len(x.All()) != 8 {
		t.Errorf("%d terms, %d names", len(x.All()), len(names))
	}
}

// P11.2: Pub and Dh of names, and of what is no public key's name.
func TestSymbolDh(t *testing.T) {
	w := newTwin(t)
	a, b := w.atom("a"), w.atom("b")
	ours, theirs := w.pub(a), w.pub(b)
	if x, y := w.dh(a, theirs), w.dh(b, ours); x != y || x == "" {
		t.Errorf("%q and %q", x, y)
	}
	w.dh(a, ours)
	w.dh("", w.pub(""))
	w.dh("any text", w.pub(strings.Repeat("s", mostPart)))
	names := []string{a, w.dh(a, theirs), w.byHand(b), w.hash(b, ""), w.seal(b, 0, "", ""), named(0), named(99), "", "b", b[:31], theirs[:31], theirs + "\x00", "Term" + theirs[4:], strings.Repeat("\x00", 32), key(1)}
	names = append(names, w.keys(b, "", 3)...)
	for _, name := range names {
		notShared(t, w.mine, a, name)
		notShared(t, w.mine, name, name)
	}
	long := strings.Repeat("s", mostPart+1)
	w.same("Pub of what is too long", w.pub(long), "")
	notShared(t, w.mine, long, theirs)
	notShared(t, w.mine, a, long)
	w.stands()
}

// P11.2: Hash of texts that are cut elsewhere is another term, and the label stands ahead.
func TestSymbolHash(t *testing.T) {
	w := newTwin(t)
	seen := map[string]bool{}
	s := "hash key \x00\x01"
	for at := range len(s) + 1 {
		h := w.hash(s[:at], s[at:])
		if h == "" || seen[h] {
			t.Errorf("Hash, cut at %d: %q", at, h)
		}
		seen[h] = true
	}
	w.hash("", "")
	whole := strings.Repeat("s", mostPart)
	w.hash(whole, whole)
	for _, other := range []string{w.byHand("a", "b"), w.byHand("key", "a", "b"), w.byHand("Hash", "a", "b"), w.byHand("hash", "b", "a"), w.byHand("hash", "ab"), w.byHand("hash", "a", "b", "")} {
		if w.hash("a", "b") == other {
			t.Errorf("Hash is %q, a term of other parts", other)
		}
	}
	w.same("Hash by hand", w.byHand("hash", "a", "b"), w.hash("a", "b"))
	for _, long := range []string{whole + "s", strings.Repeat("s", 70000)} {
		w.same("Hash", w.hash(long, ""), "")
		w.same("Hash", w.hash("", long), "")
		w.same("Hash", w.hash(long, long), "")
	}
	w.stands()
}

// P11.2: Keys by their numbers, of whatever key; none where one can't be, and no term then.
func TestSymbolKeys(t *testing.T) {
	w := newTwin(t)
	whole := strings.Repeat("s", mostPart)
	for _, k := range append([]string{"", "k", key(1), key(1)[:31], key(1) + "x", whole, w.atom("a")}, noKeys()...) {
		for _, n := range []int{2, 1, 3} {
			w.keys(k, "b", n)
			w.keys(k, "", n)
			w.keys(k, whole, n)
		}
	}
	all := w.keys("k", "b", 3)
	for i, number := range []string{"\x01", "\x02", "\x03"} {
		w.same("Hash by hand", w.byHand("key", number, "k", "b"), all[i])
	}
	if l := w.keys("b", "k", 3); l[0] == all[0] || w.hash("k", "b") == all[0] {
		t.Error("a key is another one, or a Hash of two")
	}
	before := len(w.is.All())
	for _, long := range []string{whole + "s", strings.Repeat("s", 70000)} {
		for n := 1; n <= 3; n++ {
			for _, c := range [][2]string{{long, "b"}, {"k", long}, {long, long}} {
				if l := w.keys(c[0], c[1], n); len(l) != 0 {
					t.Errorf("Keys of what is too long: %q", l)
				}
			}
		}
	}
	for _, n := range noCounts {
		w.keys("k of no count", "b", n)
	}
	w.stands()
	if len(w.is.All()) != before {
		t.Errorf("%d terms, not %d", len(w.is.All()), before)
	}
}

// P11.2: Seal of a key, ad or text that is too long; and of what is just not.
func TestSymbolSeal(t *testing.T) {
	w := newTwin(t)
	whole := strings.Repeat("s", mostPart)
	for _, n := range numbers {
		w.seal("k", n, "ad", "text")
		w.seal("", n, "", "")
		w.open("", n, "", w.seal("", n, "", ""))
	}
	w.open(whole, 1, whole, w.seal(whole, 1, whole, whole))
	for _, long := range []string{whole + "s", strings.Repeat("s", 70000)} {
		w.same("Seal", w.seal(long, 1, "ad", "text"), "")
		w.same("Seal", w.seal("k", 1, long, "text"), "")
		w.same("Seal", w.seal("k", 1, "ad", long), "")
		notOpened(t, w.mine, api.ErrTag, long, 1, "ad", w.seal("k", 1, "ad", "text"))
		notOpened(t, w.mine, api.ErrTag, "k", 1, long, w.seal("k", 1, "ad", "text"))
		notOpened(t, w.mine, api.ErrTag, "k", 1, "ad", long)
	}
	w.stands()
}

// P11.2: Open by another key, number or ad; of terms of other kinds with parts like these; of names that there aren't.
func TestSymbolOpen(t *testing.T) {
	w := newTwin(t)
	k, other := w.atom("key"), w.atom("other")
	box := w.seal(k, 7, "ad", "text")
	before := w.is.All()
	opened(t, w.mine, "text", k, 7, "ad", box)
	for _, key := range []string{other, "", "key", "k", box, k[:31], k + "\x00", key(1)} {
		notOpened(t, w.mine, api.ErrTag, key, 7, "ad", box)
	}
	for _, n := range append([]uint64{6, 8, 7 << 8, 7 << 56, 1<<63 + 7}, numbers...) {
		if n != 7 {
			notOpened(t, w.mine, api.ErrTag, k, n, "ad", box)
		}
	}
	for _, ad := range []string{"", "a", "da", "ad\x00", "\x00ad", k, "text"} {
		notOpened(t, w.mine, api.ErrTag, k, 7, ad, box)
	}
	for _, name := range []string{"", "text", box[:31], box[1:], box + "\x00", "\x00" + box, "Term" + box[4:], box[:4] + "\x01" + box[5:], named(0), named(4), named(99), k, key(1), strings.Repeat("\x00", 32)} {
		notOpened(t, w.mine, api.ErrTag, k, 7, "ad", name)
	}
	if !slices.Equal(w.is.All(), before) {
		t.Errorf("%d terms, not %d", len(w.is.All()), len(before))
	}
}

// P11.2: terms of other kinds are no boxes, and boxes that the table has by hand are boxes as others.
func TestSymbolOpenByHand(t *testing.T) {
	w := newTwin(t)
	k := w.atom("key")
	hashes := []string{w.byHand(k, "\x07", "ad", "text"), w.byHand(k, "\x07", "ad"), w.byHand(k), w.byHand(), w.byHand("sealed", k, "\x07", "ad", "text"), w.hash(k, "\x07"), w.pub(k), w.dh(k, w.pub(k))}
	for _, name := range append(hashes, w.keys(k, "ad", 3)...) {
		notOpened(t, w.mine, api.ErrTag, k, 7, "ad", name)
	}
	for _, c := range []struct {
		key      string
		n        uint64
		ad, text string
	}{{"ad", 7, k, "text"}, {k, 8, "ad", "text"}, {k, 0, "ad", "text"}, {k, 7, "text", "ad"}, {"", 7, "ad", "text"}, {k, 7, "", "text"}, {k, 7, "ad", ""}} {
		box := w.is.Seal(c.key, c.n, c.ad, c.text)
		w.same("the table's Seal", box, w.want.Seal(c.key, c.n, c.ad, c.text))
		opened(t, w.mine, c.text, c.key, c.n, c.ad, box)
		w.open(k, 7, "ad", box)
	}
	w.stands()
}

// P11.2, P11.3: keys that are no keys of bytes are keys of terms all the same.
func TestSymbolOfNoKey(t *testing.T) {
	w := newTwin(t)
	for _, k := range noKeys() {
		if w.pub(k) == "" || w.hash(k, k) == "" || len(w.keys(k, k, 3)) != 3 || w.seal(k, 7, k, k) == "" || w.dh(k, w.pub(k)) == "" {
			t.Errorf("%q is no key", k)
		}
		opened(t, w.mine, k, k, 7, k, w.seal(k, 7, k, k))
	}
	w.stands()
}

// P11.2: a table that no call made has nothing, and gets nothing.
func TestSymbolOfAZeroTable(t *testing.T) {
	x := new(term.Table)
	p := prims.Symbol(x)
	for range 2 {
		if p.Pub("a") != "" || p.Hash("a", "b") != "" || len(p.Keys("k", "b", 3)) != 0 || p.Seal("k", 7, "ad", "text") != "" {
			t.Error("an answer of no table")
		}
		for _, name := range []string{"", named(0), named(1)} {
			notShared(t, p, "a", name)
			notOpened(t, p, api.ErrTag, "k", 7, "ad", name)
			notOpened(t, p, api.ErrTag, "", 0, "", name)
		}
	}
	if len(x.All()) != 0 {
		t.Errorf("%d terms", len(x.All()))
	}
}

// Ways: what the table does is given out.
func TestSymbolGivesOut(t *testing.T) {
	x := term.New()
	p, ok := prims.Symbol(x).(interface {
		Atom(s string) string
		Parts(name string) (byte, []string, bool)
		All() []string
	})
	if !ok {
		t.Fatal("the table's calls are not given out")
	}
	name := p.Atom("a")
	if kind, l, ok := p.Parts(name); name != x.Atom("a") || kind != term.Atom || !slices.Equal(l, []string{"a"}) || !ok || !slices.Equal(p.All(), x.All()) {
		t.Errorf("%q, %d, %q", name, kind, l)
	}
}

// run: calls of a twin as numbers say, of few texts, so that names come again.
func (w *twin) run(next func(n int) int, calls int) {
	w.Helper()
	long := strings.Repeat("s", mostPart+1)
	text := func() string {
		switch i := next(9); {
		case i < 5:
			return named(1 + next(20))
		case i < 8:
			return []string{"", "a", "key", "hash", "\x01", key(1)}[next(6)]
		}
		return long[next(2):]
	}
	for range calls {
		a, b, c, n := text(), text(), text(), next(6)
		switch next(9) {
		case 0:
			w.pub(a)
		case 1:
			w.dh(a, b)
		case 2:
			w.hash(a, b)
		case 3:
			w.keys(a, b, n-1)
		case 4:
			w.open(a, uint64(n), b, w.seal(a, uint64(n), b, c))
		case 5:
			w.open(a, uint64(n), b, c)
		case 6:
			w.byHand([]string{a, codec.Num(uint64(n)), b, c}[:next(5)]...)
		case 7:
			w.byHand("key", codec.Num(uint64(n)), a, b)
		case 8:
			if kind, l, _ := w.is.Parts(a); kind == term.Sealed {
				number, _ := codec.Read(l[1])
				w.open(l[0], number, l[2], a)
			}
		}
	}
	w.stands()
}

// P11.2: calls as chance has them.
func TestSymbolAsWords(t *testing.T) {
	for seed := range int64(50) {
		newTwin(t).run(rand.New(rand.NewSource(seed)).Intn, 200)
	}
}

// FuzzAsWords: both kinds, of calls as bytes say.
func FuzzAsWords(f *testing.F) {
	f.Add([]byte("a few calls"), key(1), "text")
	f.Add([]byte{0, 1, 2, 3, 4, 5, 6, 7, 8, 9, 10, 11, 12}, key(2), string(key(3)))
	f.Fuzz(func(t *testing.T, calls []byte, k, text string) {
		left := calls
		next := func(n int) int {
			if len(left) == 0 {
				return 0
			}
			i := int(left[0]) % n
			left = left[1:]
			return i
		}
		newTwin(t).run(next, min(len(calls)/4, 200))
		asBytes(t, k, text, string(calls), uint64(len(calls)), len(text)%6-1)
	})
}

func BenchmarkKeysAndBox(b *testing.B) {
	for _, p := range both() {
		b.Run(p.name, func(b *testing.B) {
			for b.Loop() {
				k := p.Keys(key(1), "text", 3)
				p.Open(k[0], 7, "ad", p.Seal(k[0], 7, "ad", "some text"))
			}
		})
	}
}

func BenchmarkDh(b *testing.B) {
	for _, p := range both() {
		b.Run(p.name, func(b *testing.B) {
			for b.Loop() {
				p.Dh(key(1), p.Pub(key(2)))
			}
		})
	}
}
