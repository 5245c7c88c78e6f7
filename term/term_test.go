package term_test

import (
	"encoding/binary"
	"math"
	"math/rand"
	"slices"
	"strings"
	"testing"
	"unsafe"

	"signetring/term"
)

const (
	most  = 30000 // bytes of a kind and parts as one text
	texts = 255   // parts, at most
	large = 4000  // bytes of a part
)

// ordinary: bytes of no special kind, the same ones at each run.
func ordinary(seed int64, n int) string {
	r := rand.New(rand.NewSource(seed))
	b := make([]byte, n)
	for i := range b {
		b[i] = byte(r.Intn(256))
	}
	return string(b)
}

// named: the name of that number, as the document's words tell it.
func named(n uint64) string {
	return "term" + strings.Repeat("\x00", 20) + string(binary.BigEndian.AppendUint64(nil, n))
}

// num: a number's bytes, as the words tell them.
func num(n uint64) string {
	return strings.TrimLeft(string(binary.BigEndian.AppendUint64(nil, n)), "\x00")
}

// allowed: may these be parts of a term?
func allowed(l []string) bool {
	size := 3
	for _, s := range l {
		if len(s) > large {
			return false
		}
		size += 2 + len(s)
	}
	return len(l) <= texts && size <= most
}

// full: parts that come to so many bytes as one text, the last one of less than 4000.
func full(size int) []string {
	l := slices.Repeat([]string{ordinary(1, large)}, (size-3)/(large+2))
	return append(l, ordinary(2, (size-3)%(large+2)-2))
}

// one: a term, as the words tell it.
type one struct {
	kind  byte
	parts []string
}

// pair: a table, and the terms that it has to have, in their order; each call is held against these.
type pair struct {
	*testing.T
	table *term.Table
	terms []one
}

func newPair(t *testing.T) *pair { return &pair{T: t, table: term.New()} }

// at: the place of the term of that kind with these parts; -1, if there is none.
func (p *pair) at(kind byte, parts []string) int {
	return slices.IndexFunc(p.terms, func(o one) bool { return o.kind == kind && slices.Equal(o.parts, parts) })
}

// want: the name that the term of that kind with these parts has to have, from now on.
func (p *pair) want(kind byte, parts ...string) string {
	if !allowed(parts) {
		return ""
	}
	at := p.at(kind, parts)
	if at < 0 {
		at = len(p.terms)
		p.terms = append(p.terms, one{kind, slices.Clone(parts)})
	}
	return named(uint64(at) + 1)
}

// is: a call has answered what it had to.
func (p *pair) is(call, got, want string) string {
	p.Helper()
	if got != want {
		p.Fatalf("%s, behind %d terms: %q, not %q", call, len(p.terms), got, want)
	}
	return got
}

func (p *pair) atom(s string) string {
	p.Helper()
	return p.is("Atom", p.table.Atom(s), p.want(1, s))
}

func (p *pair) pub(secret string) string {
	p.Helper()
	return p.is("Pub", p.table.Pub(secret), p.want(2, secret))
}

func (p *pair) dh(secret, pub string) string {
	p.Helper()
	want := ""
	for i, o := range p.terms {
		if o.kind == 2 && pub == named(uint64(i)+1) {
			both := []string{secret, o.parts[0]}
			slices.Sort(both)
			want = p.want(3, both...)
			break
		}
	}
	got, ok := p.table.Dh(secret, pub)
	if ok != (want != "") {
		p.Fatalf("Dh of %.40q and %.40q: %t", secret, pub, ok)
	}
	return p.is("Dh", got, want)
}

func (p *pair) hash(l ...string) string {
	p.Helper()
	return p.is("Hash", p.table.Hash(l...), p.want(4, l...))
}

func (p *pair) seal(key string, n uint64, ad, text string) string {
	p.Helper()
	return p.is("Seal", p.table.Seal(key, n, ad, text), p.want(5, key, num(n), ad, text))
}

// stands: the table has these terms, in this order, and no other one.
func (p *pair) stands() {
	p.Helper()
	all := p.table.All()
	if len(all) != len(p.terms) {
		p.Fatalf("%d terms, not %d", len(all), len(p.terms))
	}
	for i, o := range p.terms {
		if name := named(uint64(i) + 1); all[i] != name {
			p.Fatalf("All: %q, not %q", all[i], name)
		}
		if kind, l, ok := p.table.Parts(all[i]); kind != o.kind || !slices.Equal(l, o.parts) || !ok {
			p.Fatalf("Parts of %d: kind %d, %.80q, %t; not %d, %.80q", i+1, kind, l, ok, o.kind, o.parts)
		}
	}
	p.none(named(uint64(len(all)) + 1))
}

// none: no term has that name, and nothing is beside that (R3).
func (p *pair) none(name string) {
	p.Helper()
	if kind, l, ok := p.table.Parts(name); kind != 0 || len(l) != 0 || ok {
		p.Errorf("Parts of %.60q (%d bytes): %d, %.80q, %t", name, len(name), kind, l, ok)
	}
}

// refused: a call that comes to no term leaves the table as it was, and the next term has the next number.
func (p *pair) refused(call func() string) {
	p.Helper()
	before := len(p.terms)
	if name := call(); name != "" {
		p.Errorf("%q: a name of what is too much", name)
	}
	if len(p.terms) != before {
		p.Fatal("the test itself takes that for a term")
	}
	p.stands()
	p.atom("behind what was refused, " + num(uint64(before)))
}

// each: a term of each kind: five behind the two public keys, and these.
func (p *pair) each() {
	p.Helper()
	p.atom("a")
	mine, theirs := p.pub("x"), p.pub("y")
	p.dh("x", theirs)
	p.dh("y", mine)
	p.hash("label", "a")
	p.hash()
	p.seal("key", 7, "ad", "text")
}

// The chapter's example, to the byte.
func TestExample(t *testing.T) {
	x := term.New()
	a := x.Atom("a")
	if a != "term\x00\x00\x00\x00\x00\x00\x00\x00\x00\x00\x00\x00\x00\x00\x00\x00\x00\x00\x00\x00\x00\x00\x00\x00\x00\x00\x00\x01" {
		t.Errorf("Atom: %q", a)
	}
	if p := x.Pub(a); p != "term\x00\x00\x00\x00\x00\x00\x00\x00\x00\x00\x00\x00\x00\x00\x00\x00\x00\x00\x00\x00\x00\x00\x00\x00\x00\x00\x00\x02" {
		t.Errorf("Pub: %q", p)
	}
	if b := x.Atom("a"); b != a {
		t.Errorf("Atom, again: %q", b)
	}
}

// P9.1: the kinds' numbers.
func TestKinds(t *testing.T) {
	const known byte = term.Atom // as every constant without a type
	if known != 1 || term.Pub != 2 || term.Dh != 3 || term.Hash != 4 || term.Sealed != 5 {
		t.Error(term.Atom, term.Pub, term.Dh, term.Hash, term.Sealed)
	}
}

// P9.1: names to the byte, where the number needs one byte more, and where it doesn't.
func TestNames(t *testing.T) {
	x := term.New()
	ends := map[uint64]string{
		1: "\x00\x00\x01", 2: "\x00\x00\x02", 127: "\x00\x00\x7f", 128: "\x00\x00\x80", 254: "\x00\x00\xfe", 255: "\x00\x00\xff", 256: "\x00\x01\x00", 257: "\x00\x01\x01",
		511: "\x00\x01\xff", 512: "\x00\x02\x00", 65535: "\x00\xff\xff", 65536: "\x01\x00\x00", 65537: "\x01\x00\x01", 65792: "\x01\x01\x00",
	}
	names := map[string]bool{}
	for n := uint64(1); n <= 66000; n++ {
		name := x.Atom(num(n))
		if end, ok := ends[n]; ok && name != "term"+strings.Repeat("\x00", 25)+end {
			t.Errorf("the term %d: %q", n, name)
		}
		if len(name) != 32 || name != named(n) || names[name] {
			t.Fatalf("the term %d: %q", n, name)
		}
		names[name] = true
	}
	if all := x.All(); len(all) != 66000 || all[255] != named(256) || all[65999] != named(66000) {
		t.Errorf("%d terms", len(all))
	}
	for _, n := range []uint64{1, 255, 256, 257, 65535, 65536, 65537, 66000} {
		if kind, l, ok := x.Parts(named(n)); kind != 1 || !slices.Equal(l, []string{num(n)}) || !ok {
			t.Errorf("Parts of %d: %d, %q, %t", n, kind, l, ok)
		}
		if x.Atom(num(n)) != named(n) {
			t.Errorf("the term %d, again", n)
		}
	}
	if _, _, ok := x.Parts(named(66001)); ok {
		t.Error("one more than there are")
	}
}

// P9.1, P9.2: terms of all kinds take their numbers from one row, and each one that is made again keeps its own.
func TestMadeAgain(t *testing.T) {
	p := newPair(t)
	p.each()
	if len(p.terms) != 7 {
		t.Fatalf("%d terms", len(p.terms))
	}
	p.stands()
	first := slices.Clone(p.terms)
	for i := range 300 {
		p.hash("behind", num(uint64(i)))
		p.each()
		p.each()
	}
	if len(p.terms) != 307 || !slices.EqualFunc(p.terms[:7], first, func(a, b one) bool { return a.kind == b.kind && slices.Equal(a.parts, b.parts) }) {
		t.Errorf("%d terms", len(p.terms))
	}
	p.stands()
}

// P9.4: like parts, and another kind, are another term.
func TestLikePartsUnlikeKinds(t *testing.T) {
	p := newPair(t)
	own := p.pub("x")
	for _, s := range []string{"x", "", "\x00", own, strings.Repeat("s", large)} {
		p.atom(s)
		pub := p.pub(s)
		p.hash(s)
		p.dh(s, pub)
		p.hash(s, s)
		p.seal(s, 9, s, s)
		p.hash(s, "\x09", s, s)
		p.seal(s, 0, s, s)
		p.hash(s, "", s, s)
		p.stands()
	}
	if len(p.terms) != 5*9 {
		t.Errorf("%d terms", len(p.terms))
	}
}

// P9.4: what is the same, one part behind the other, and cut otherwise, is another term.
func TestCutOtherwise(t *testing.T) {
	p := newPair(t)
	lists := [][]string{nil, {""}, {"", ""}, {"abc"}, {"a", "bc"}, {"ab", "c"}, {"a", "b", "c"}, {"abc", ""}, {"", "abc"}, {"a", "", "bc"}, {"c", "b", "a"}, {"bc", "a"}, {"\x00"}, {"\x00\x00"}, {"\x00", "\x00"}, {"\x00\x01a"}, {"", "a"}, {"\x01\x04\x00"}, {"\x01\x04\x01\x00\x01a"}}
	for _, l := range lists {
		p.hash(l...)
	}
	if len(p.terms) != len(lists) {
		t.Errorf("%d terms", len(p.terms))
	}
	for _, s := range [][3]string{{"ab", "c", "d"}, {"a", "bc", "d"}, {"a", "b", "cd"}, {"abcd", "", ""}, {"", "abcd", ""}, {"", "", "abcd"}, {"d", "c", "ab"}} {
		p.seal(s[0], 0, s[1], s[2])
		p.seal(s[0], 'b', s[1], s[2])
	}
	p.seal("", 0, "", "")
	if len(p.terms) != len(lists)+15 {
		t.Errorf("%d terms", len(p.terms))
	}
	ab, a := p.pub("bc"), p.pub("c")
	p.dh("a", ab)
	p.dh("ab", a)
	p.stands()
}

// P9.1: parts of each kind, of no byte and of as many as may be; one more, in any of the parts, is too much.
func TestSizes(t *testing.T) {
	for _, n := range []int{0, 1, 255, 256, 257, large - 1, large} {
		p, s := newPair(t), ordinary(3, n)
		p.atom(s)
		pub := p.pub(s)
		p.dh(s, pub)
		p.dh("", pub)
		p.hash(s)
		p.hash(s, "", s)
		p.seal(s, 1, s, s)
		p.stands()
	}
	for _, n := range []int{large + 1, large + 2, 4096, most, most + 1, 65535, 65536, 65536 + 1, 1 << 20} {
		p, s := newPair(t), ordinary(3, n)
		p.each()
		p.refused(func() string { return p.atom(s) })
		p.refused(func() string { return p.pub(s) })
		p.refused(func() string { return p.hash(s) })
		p.refused(func() string { return p.hash("a", s, "b") })
		p.refused(func() string { return p.seal(s, 1, "", "") })
		p.refused(func() string { return p.seal("", 1, s, "") })
		p.refused(func() string { return p.seal("", 1, "", s) })
		p.refused(func() string { return p.dh(s, named(2)) })
	}
}

// P9.1: as many parts as may be, and more, of which some have a byte as a lesser count has it.
func TestCounts(t *testing.T) {
	p := newPair(t)
	for _, n := range []int{0, 1, 2, 3, 127, 128, 254, 255} {
		p.hash(make([]string, n)...)
		p.hash(slices.Repeat([]string{"x"}, n)...)
		p.stands()
	}
	// Without a part there is one term alone.
	if len(p.terms) != 15 {
		t.Errorf("%d terms", len(p.terms))
	}
	for _, n := range []int{256, 257, 258, 511, 512, 65535, 65536, 65537} {
		p.refused(func() string { return p.hash(make([]string, n)...) })
		p.refused(func() string { return p.hash(slices.Repeat([]string{"x"}, n)...) })
	}
}

// P9.1: of kind and parts as one text, as many bytes as may be, and more.
func TestMuch(t *testing.T) {
	p := newPair(t)
	for size := most - 3; size <= most; size++ {
		p.hash(full(size)...)
		p.stands()
	}
	if len(p.terms) != 4 {
		t.Errorf("%d terms", len(p.terms))
	}
	for _, size := range []int{most + 1, most + 2, most + 20, 65536, 65540} {
		p.refused(func() string { return p.hash(full(size)...) })
	}
	p.refused(func() string { return p.hash(append(full(most), "")...) })
	p.refused(func() string { return p.hash(append(full(most-1), "")...) })
	p.hash(append(full(most-2), "")...)
	// 3 + 254 * (2 + 115) + 2 + 277
	many := slices.Repeat([]string{ordinary(4, 115)}, 254)
	p.hash(append(many, ordinary(5, 277))...)
	p.refused(func() string { return p.hash(append(many, ordinary(5, 278))...) })
	p.stands()
}

// P9.1: the number of a box is in its parts, without bytes 0 ahead; another one is another box.
func TestSealOfNumbers(t *testing.T) {
	x := term.New()
	for want, n := range map[string]uint64{
		"": 0, "\x01": 1, "\x7f": 127, "\x80": 128, "\xff": 255, "\x01\x00": 256, "\x01\x01": 257, "\xff\xff": 65535, "\x01\x00\x00": 65536,
		"\xff\xff\xff\xff": 1<<32 - 1, "\x01\x00\x00\x00\x00": 1 << 32, "\x01\x00\x00\x00\x01": 1<<32 + 1, "\x7f\xff\xff\xff\xff\xff\xff\xff": math.MaxInt64,
		"\x80\x00\x00\x00\x00\x00\x00\x00": 1 << 63, "\xff\xff\xff\xff\xff\xff\xff\xff": math.MaxUint64,
	} {
		name := x.Seal("key", n, "ad", "text")
		if name != named(uint64(len(x.All()))) {
			t.Errorf("Seal of %d: %q, behind %d", n, name, len(x.All()))
		}
		if kind, l, ok := x.Parts(name); kind != 5 || !slices.Equal(l, []string{"key", want, "ad", "text"}) || !ok {
			t.Errorf("Parts of the box of %d: %d, %q, %t", n, kind, l, ok)
		}
		if x.Seal("key", n, "ad", "text") != name {
			t.Errorf("Seal of %d, again", n)
		}
	}
	if len(x.All()) != 15 {
		t.Errorf("%d boxes", len(x.All()))
	}
}

// P9.1, P9.4: each of what a box is made of says which one it is.
func TestSealOfOthers(t *testing.T) {
	p := newPair(t)
	for _, key := range []string{"key", "Key", "", named(1)} {
		for _, n := range []uint64{0, 1, 256} {
			for _, ad := range []string{"", "ad", named(1)} {
				for _, text := range []string{"", "text", named(1), "ad"} {
					p.seal(key, n, ad, text)
				}
			}
		}
	}
	if len(p.terms) != 4*3*3*4 {
		t.Errorf("%d boxes", len(p.terms))
	}
	p.stands()
}

// P9.2, P9.4: what two secrets come to with each other's public key is one term, whichever is the lesser one.
func TestDh(t *testing.T) {
	secrets := []string{"", "\x00", "a", "A", "ab", "b", "\xff", named(1), named(2), named(256), ordinary(6, 32), ordinary(7, large)}
	for _, a := range secrets {
		for _, b := range secrets {
			for _, order := range [][2]string{{a, b}, {b, a}} {
				x := term.New()
				mine, theirs := x.Pub(order[0]), x.Pub(order[1])
				before := uint64(len(x.All()))
				one, ok := x.Dh(order[0], theirs)
				two, too := x.Dh(order[1], mine)
				if !ok || !too || one != named(before+1) || two != one {
					t.Errorf("Dh of %.40q and %.40q: %q, %t; %q, %t", order[0], order[1], one, ok, two, too)
				}
				want := []string{min(a, b), max(a, b)}
				if kind, l, ok := x.Parts(one); kind != 3 || !slices.Equal(l, want) || !ok {
					t.Errorf("Parts of Dh of %.40q and %.40q: %d, %.80q, %t", order[0], order[1], kind, l, ok)
				}
				if len(x.All()) != int(before)+1 {
					t.Errorf("%d terms behind %d", len(x.All()), before)
				}
			}
		}
	}
}

// P9.2, P9.4: other secrets come to another term.
func TestDhOfOthers(t *testing.T) {
	p := newPair(t)
	secrets := []string{"", "a", "b", "ab", "ba", "aa", "c", "bc"}
	var pubs []string
	for _, s := range secrets {
		pubs = append(pubs, p.pub(s))
	}
	for _, s := range secrets {
		for _, pub := range pubs {
			p.dh(s, pub)
		}
	}
	// 8 public keys, and each two of 8, and each with itself.
	if len(p.terms) != 8+28+8 {
		t.Errorf("%d terms", len(p.terms))
	}
	p.stands()
}

// P9.2: with what is no public key's name there is no term, and nothing changes; a public key that comes later has one.
func TestDhOfNoPub(t *testing.T) {
	p := newPair(t)
	p.atom("x")
	pub := p.pub("x")
	shared := p.dh("x", pub)
	p.hash("x")
	p.seal("x", 0, "", "")
	for i := range p.terms {
		if name := named(uint64(i) + 1); name != pub {
			p.refused(func() string { return p.dh("x", name) })
		}
	}
	for _, name := range append(noNames(pub), "x", shared[:31], named(math.MaxUint64)) {
		p.refused(func() string { return p.dh("x", name) })
		p.refused(func() string { return p.dh(name, "x") })
		p.refused(func() string { return p.dh("", name) })
	}
	next := named(uint64(len(p.terms)) + 1)
	p.refused(func() string { return p.dh("x", next) })
	later := p.pub("later")
	p.dh("x", later)
	p.stands()
}

// P9.2: a table knows its own terms alone, whatever names another one gives out.
func TestDhOfAnotherTable(t *testing.T) {
	p, other := newPair(t), newPair(t)
	p.atom("first")
	mine := p.pub("x")
	theirs := other.pub("y")
	p.refused(func() string { return p.dh("x", theirs) })
	other.refused(func() string { return other.dh("y", mine) })
	// Number 3 is a public key in both, of unlike secrets: a name says what it says in the table that is asked.
	q, r := newPair(t), newPair(t)
	for _, s := range []string{"a", "b", "x"} {
		q.pub(s)
		r.pub(s + s)
	}
	q.dh("s", named(3))
	r.dh("s", named(3))
	if _, l, _ := q.table.Parts(named(4)); !slices.Equal(l, []string{"s", "x"}) {
		t.Errorf("%q", l)
	}
	if _, l, _ := r.table.Parts(named(4)); !slices.Equal(l, []string{"s", "xx"}) {
		t.Errorf("%q", l)
	}
}

// P9.2: a secret that is too long comes to no term with a public key that there is.
func TestDhOfMuch(t *testing.T) {
	p := newPair(t)
	short, long := p.pub(""), p.pub(strings.Repeat("y", large))
	for _, pub := range []string{short, long} {
		for _, b := range []string{"\x00", "x", "z", "\xff"} {
			p.dh(strings.Repeat(b, large), pub)
			for _, n := range []int{large + 1, most, 65536, 65537} {
				p.refused(func() string { return p.dh(strings.Repeat(b, n), pub) })
			}
		}
	}
	p.stands()
}

// noNames: texts that are near a name, and that no term has.
func noNames(name string) []string {
	l := []string{"", "t", "term", "\x00", name[:31], name[1:], name[:4], name[4:], name + "\x00", "\x00" + name, name + name, "term" + name, name + " ", strings.ToUpper(name), strings.Repeat("\x00", 32), strings.Repeat("\xff", 32), strings.Repeat("term", 8)}
	// Without "term" ahead there is no name, though a number stands at its end.
	l = append(l, strings.Repeat("\x00", 24)+name[24:], strings.Repeat("\x00", 20)+name[24:], "\x00\x00\x00m"+name[4:])
	// A byte 0 more or fewer ahead of the number is no second form of a name.
	for _, zeros := range []int{0, 18, 19, 21, 22, 52} {
		l = append(l, "term"+strings.Repeat("\x00", zeros)+name[24:])
	}
	for at := range 24 {
		for _, flip := range []byte{1, 0x20, 0x80, 0xff} {
			b := []byte(name)
			b[at] ^= flip
			l = append(l, string(b))
		}
	}
	for _, s := range []int{1 << 10, 1 << 20} {
		l = append(l, name+strings.Repeat("\x00", s), strings.Repeat("\x00", s), strings.Repeat("term", s))
	}
	return l
}

// P9.3: of each kind's names, and of what is none.
func TestParts(t *testing.T) {
	p := newPair(t)
	p.none(named(0))
	p.none(named(1))
	p.each()
	p.stands()
	for i := range p.terms {
		for _, name := range noNames(named(uint64(i) + 1)) {
			p.none(name)
		}
	}
	own := uint64(len(p.terms))
	for _, n := range []uint64{0, own + 1, own + 2, 255, 256, 257, 258, 65536, 65537, 1 << 32, 1<<32 + 1, 1<<31 + 1, 1<<56 + 1, 1 << 63, 1<<63 + 1, math.MaxInt64, math.MaxUint64 - 1, math.MaxUint64} {
		p.none(named(n))
	}
	// The number's bytes in another order, or with a fill that is none.
	p.none("term" + strings.Repeat("\x00", 20) + "\x01\x00\x00\x00\x00\x00\x00\x00")
	p.none("term" + strings.Repeat("0", 27) + "1")
	p.none("term" + strings.Repeat(" ", 27) + "\x01")
	p.none("term\x01" + strings.Repeat("\x00", 27))
	p.stands()
}

// P9.3: a part that is a name stays one; the parts of its term are not looked for.
func TestPartsThatAreNames(t *testing.T) {
	p := newPair(t)
	a := p.atom("a")
	pub := p.pub(a)
	shared := p.dh(a, pub)
	digest := p.hash("label", shared, a)
	box := p.seal(digest, 3, pub, box5(p))
	p.hash(box, named(99), named(0))
	p.stands()
}

// box5: a box in a box, and so on.
func box5(p *pair) string {
	text := "text"
	for i := range uint64(5) {
		text = p.seal("key", i, "", text)
	}
	return text
}

// P9.3: in the order of the first calls, whatever came again, and whatever was refused in between.
func TestAll(t *testing.T) {
	p := newPair(t)
	if len(p.table.All()) != 0 {
		t.Errorf("a new table: %q", p.table.All())
	}
	p.atom("z")
	p.hash("y")
	p.atom(strings.Repeat("x", large+1))
	p.pub("w")
	p.atom("z")
	p.dh("z", named(1))
	p.dh("v", named(3))
	p.hash(make([]string, 256)...)
	p.seal("u", 1, "", "")
	p.hash("y")
	p.atom("a")
	if want := []string{named(1), named(2), named(3), named(4), named(5), named(6)}; !slices.Equal(p.table.All(), want) {
		t.Errorf("%q", p.table.All())
	}
	p.stands()
}

// P9.1 to P9.3, R7: a table that no call made has nothing, and takes nothing.
func TestNoTable(t *testing.T) {
	var zero term.Table
	for what, x := range map[string]*term.Table{"nil": nil, "zero": &zero, "made by new": new(term.Table)} {
		for range 2 {
			for call, name := range map[string]string{
				"Atom": x.Atom("a"), "Atom of nothing": x.Atom(""), "Pub": x.Pub("a"), "Hash": x.Hash("a"), "Hash of nothing": x.Hash(), "Seal": x.Seal("k", 1, "", "t"),
				"Atom of much": x.Atom(strings.Repeat("x", large+1)), "Hash of many": x.Hash(make([]string, 256)...),
			} {
				if name != "" {
					t.Errorf("%s: %s: %q", what, call, name)
				}
			}
			for _, name := range []string{named(0), named(1), named(2), "", "a"} {
				if s, ok := x.Dh("a", name); s != "" || ok {
					t.Errorf("%s: Dh: %q, %t", what, s, ok)
				}
				if kind, l, ok := x.Parts(name); kind != 0 || len(l) != 0 || ok {
					t.Errorf("%s: Parts: %d, %q, %t", what, kind, l, ok)
				}
			}
			if len(x.All()) != 0 {
				t.Errorf("%s: All: %q", what, x.All())
			}
		}
	}
}

// R4: what is done to one table changes no other one, and the same calls come to the same names.
func TestApart(t *testing.T) {
	p, q, still := newPair(t), newPair(t), newPair(t)
	still.atom("still")
	for i := range 5 {
		p.each()
		q.hash(num(uint64(i)))
		q.each()
		p.stands()
		q.stands()
		still.stands()
	}
	again := newPair(t)
	again.each()
	if !slices.Equal(again.table.All(), p.table.All()) {
		t.Error("the same calls, other names")
	}
}

// R6: what is handed in stays, also if it is refused, and what lies behind its end.
func TestArgumentsStay(t *testing.T) {
	for _, l := range [][]string{{}, {"a"}, {"c", "b", "a"}, full(most), full(most + 1), make([]string, 256), {"a", strings.Repeat("x", large+1)}} {
		room := append(slices.Clone(l), "behind", "it")
		was := slices.Clone(room)
		p := newPair(t)
		p.hash(room[:len(l)]...)
		if !slices.Equal(room, was) {
			t.Errorf("Hash of %d texts has changed them", len(l))
		}
		clear(room)
		p.stands()
		p.hash(l...)
		p.stands()
	}
}

// loose: a text in bytes that are written over later.
func loose(s string) (string, []byte) {
	b := []byte(s)
	return unsafe.String(unsafe.SliceData(b), len(b)), b
}

// R6: what is handed in is not kept: each text lies in bytes that are written over behind the call.
func TestArgumentsAreNotKept(t *testing.T) {
	p := newPair(t)
	use := func(call func(s ...string), l ...string) {
		t.Helper()
		var texts []string
		var bytes [][]byte
		for _, s := range l {
			text, b := loose(s)
			texts, bytes = append(texts, text), append(bytes, b)
		}
		call(texts...)
		for _, b := range bytes {
			for i := range b {
				b[i] ^= 255
			}
		}
	}
	x := p.table
	for range 2 {
		use(func(s ...string) { x.Atom(s[0]) }, "some text")
		use(func(s ...string) { x.Pub(s[0]) }, "a secret")
		use(func(s ...string) { x.Dh(s[0], s[1]) }, "my secret", named(2))
		use(func(s ...string) { x.Dh(s[0], s[1]) }, "z secret", named(2))
		use(func(s ...string) { x.Hash(s...) }, "label", "", "some text", named(1))
		use(func(s ...string) { x.Seal(s[0], 7, s[1], s[2]) }, "a key", "an ad", "the text")
		use(func(s ...string) { x.Parts(s[0]) }, named(1))
	}
	p.terms = []one{
		{1, []string{"some text"}}, {2, []string{"a secret"}}, {3, []string{"a secret", "my secret"}}, {3, []string{"a secret", "z secret"}},
		{4, []string{"label", "", "some text", named(1)}}, {5, []string{"a key", "\x07", "an ad", "the text"}},
	}
	p.stands()
}

// scribble: writes over a list, and over what lies behind its end.
func scribble(l []string) {
	l = l[:cap(l)]
	for i := range l {
		l[i] = "written over"
	}
}

// shares: does one text lie in the memory of the other?
func shares(a, b string) bool {
	if a == "" || b == "" {
		return false
	}
	from, other := uintptr(unsafe.Pointer(unsafe.StringData(a))), uintptr(unsafe.Pointer(unsafe.StringData(b)))
	return from < other+uintptr(len(b)) && other < from+uintptr(len(a))
}

// R6: lists that are answered may be written over: no other answer changes, neither one ahead nor one behind.
func TestAnswersAreNew(t *testing.T) {
	p := newPair(t)
	p.each()
	all := p.table.All()
	scribble(p.table.All())
	for i, o := range p.terms {
		name := named(uint64(i) + 1)
		_, one, _ := p.table.Parts(name)
		_, two, _ := p.table.Parts(name)
		scribble(one)
		if !slices.Equal(two, o.parts) {
			t.Errorf("Parts of %d: one list was written over, and another one has changed", i+1)
		}
	}
	p.stands()
	p.each()
	scribble(p.table.All())
	p.atom("behind it")
	p.stands()
	if !slices.Equal(all, p.table.All()[:7]) {
		t.Errorf("a list of names that was answered has changed: %q", all)
	}
}

// R6: texts that are answered are memory of their own.
func TestTextsAreNew(t *testing.T) {
	x := term.New()
	texts := []string{"some text", "a secret", "the other one", "label", "a key", "an ad"}
	pub := x.Pub(texts[1])
	names := []string{x.Atom(texts[0]), x.Atom(texts[0]), pub, x.Pub(texts[1]), x.Hash(texts...), x.Seal(texts[4], 1<<40, texts[5], texts[0])}
	dh, _ := x.Dh(texts[2], pub)
	answers := append(append(names, dh), x.All()...)
	answers = append(answers, x.All()...)
	for range 2 {
		for _, name := range x.All() {
			_, l, _ := x.Parts(name)
			answers = append(answers, l...)
		}
	}
	for i, a := range answers {
		for _, b := range slices.Concat(answers[:i], texts) {
			if shares(a, b) {
				t.Fatalf("%q and %q lie in one memory", a, b)
			}
		}
	}
}

// P9.1 to P9.4: calls as chance has them, of few texts, so that terms come again; and some that are refused.
func TestAsWords(t *testing.T) {
	for seed := range int64(30) {
		p := newPair(t)
		r := rand.New(rand.NewSource(seed))
		text := func() string {
			switch r.Intn(5) {
			case 0:
				return named(uint64(r.Intn(len(p.terms) + 2)))
			case 1:
				return strings.Repeat("x", large-1+r.Intn(3))
			}
			return "abc"[:r.Intn(4)]
		}
		for range 300 {
			switch r.Intn(6) {
			case 0:
				p.atom(text())
			case 1:
				p.pub(text())
			case 2, 3:
				p.dh(text(), named(uint64(r.Intn(len(p.terms)+2))))
			case 4:
				l := make([]string, r.Intn(4))
				for i := range l {
					l[i] = text()
				}
				p.hash(l...)
			case 5:
				p.seal(text(), uint64(r.Intn(3))*255, text(), text())
			}
		}
		p.stands()
	}
}

func FuzzAsWords(f *testing.F) {
	f.Add("", "", "", uint64(0), byte(0))
	f.Add("a", "b", named(2), uint64(256), byte(3))
	f.Add("\x01\x04\x00", "term", named(0), uint64(math.MaxUint64), byte(255))
	f.Add(strings.Repeat("x", large), strings.Repeat("y", large+1), named(1<<63), uint64(1), byte(1))
	f.Fuzz(func(t *testing.T, a, b, c string, n uint64, many byte) {
		p := newPair(t)
		for range 2 {
			p.atom(a)
			p.pub(a)
			p.pub(b)
			for _, name := range []string{c, named(1), named(2), named(3), named(n)} {
				p.dh(a, name)
				p.dh(b, name)
			}
			p.hash(slices.Repeat([]string{a, b}, int(many))...)
			p.hash(a+b, c)
			p.hash(a, b+c)
			p.seal(a, n, b, c)
			p.stands()
		}
		if at := slices.Index(p.table.All(), c); at < 0 {
			p.none(c)
		}
	})
}

func BenchmarkHash(b *testing.B) {
	x := term.New()
	l := full(most)
	b.SetBytes(most)
	for b.Loop() {
		x.Hash(l...)
	}
}

func BenchmarkNewAtoms(b *testing.B) {
	x := term.New()
	for n := uint64(0); b.Loop(); n++ {
		x.Atom(num(n))
	}
}

func BenchmarkParts(b *testing.B) {
	x := term.New()
	name := x.Seal("key", 7, "ad", "text")
	for b.Loop() {
		x.Parts(name)
	}
}
