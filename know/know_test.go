package know_test

import (
	"encoding/binary"
	"fmt"
	"math"
	"math/rand"
	"slices"
	"strings"
	"testing"
	"unsafe"

	"signetring/api"
	"signetring/codec"
	"signetring/know"
	"signetring/term"
)

// named: the name of that number, as the document's words tell it.
func named(n int) string {
	return "term" + strings.Repeat("\x00", 20) + string(binary.BigEndian.AppendUint64(nil, uint64(n)))
}

// joined: a text of texts.
func joined(l ...string) string {
	s, e := codec.Join(9, l...)
	if e != api.OK {
		panic(e)
	}
	return s
}

// nested: a text in so many texts of texts.
func nested(s string, deep int) string {
	for range deep {
		s = joined(s)
	}
	return s
}

// view: what is known, as the chapter's words tell it, by going through the table till nothing is new.
type view struct {
	table *term.Table
	names []string
	known map[string]bool
}

func (v *view) isName(s string) bool { return slices.Contains(v.names, s) }

func (v *view) tell(text string) {
	if v.isName(text) {
		v.known[text] = true
		return
	}
	_, l, _ := codec.Split(text)
	for _, s := range l {
		v.tell(s)
	}
}

func (v *view) has(texts ...string) bool {
	for _, text := range texts {
		if v.isName(text) {
			if !v.known[text] {
				return false
			}
			continue
		}
		if _, l, e := codec.Split(text); e == api.OK && !v.has(l...) {
			return false
		}
	}
	return true
}

// hasPub: is the Pub of that in the table, and known?
func (v *view) hasPub(secret string) bool {
	for name := range v.known {
		if kind, l, _ := v.table.Parts(name); kind == term.Pub && l[0] == secret {
			return true
		}
	}
	return false
}

// follows: is that term known by what is known?
func (v *view) follows(name string) bool {
	kind, l, _ := v.table.Parts(name)
	switch kind {
	case term.Pub, term.Hash:
		return v.has(l...)
	case term.Dh:
		return v.has(l[0]) && (v.has(l[1]) || v.hasPub(l[1])) || v.has(l[1]) && (v.has(l[0]) || v.hasPub(l[0]))
	case term.Sealed:
		return v.has(l[0], l[2], l[3])
	}
	return false
}

// pass: goes through the table once.
func (v *view) pass() {
	for _, name := range v.names {
		if v.follows(name) {
			v.known[name] = true
		}
		if kind, l, _ := v.table.Parts(name); kind == term.Sealed && v.known[name] && v.has(l[0]) {
			v.tell(l[3])
		}
	}
}

func viewOf(x *term.Table, told ...string) *view {
	v := &view{x, x.All(), map[string]bool{}}
	for _, s := range told {
		v.tell(s)
	}
	for before := -1; before < len(v.known); {
		before = len(v.known)
		v.pass()
	}
	return v
}

func (v *view) terms() []string {
	var l []string
	for _, name := range v.names {
		if v.known[name] {
			l = append(l, name)
		}
	}
	return l
}

// short: names as their numbers.
func short(names []string) string {
	var l []uint64
	for _, s := range names {
		l = append(l, binary.BigEndian.Uint64([]byte(s[24:])))
	}
	return fmt.Sprint(l)
}

// asWords: the set of who was told these, held against the chapter's words.
func asWords(t *testing.T, what string, x *term.Table, told ...string) *know.Set {
	t.Helper()
	s, v := know.New(x, told...), viewOf(x, told...)
	if got := s.Terms(); !slices.Equal(got, v.terms()) {
		t.Fatalf("%s: the terms %s, not %s", what, short(got), short(v.terms()))
	}
	asked := append(slices.Clone(told), v.names...)
	for _, name := range v.names {
		_, l, _ := x.Parts(name)
		asked = append(asked, l...)
		asked = append(asked, "x"+name, joined(name), joined("a", joined(), name))
	}
	for _, text := range asked {
		if s.Has(text) != v.has(text) {
			t.Errorf("%s: Has(%.40q): %t", what, text, s.Has(text))
		}
	}
	return s
}

// knows: who is told these knows just those terms of the table.
func knows(t *testing.T, what string, x *term.Table, told []string, want ...string) {
	t.Helper()
	s := asWords(t, what, x, told...)
	want = slices.Clone(want)
	slices.Sort(want)
	want = slices.Compact(want)
	if got := s.Terms(); !slices.Equal(got, want) {
		t.Errorf("%s: the terms %s, not %s", what, short(got), short(want))
	}
	for _, name := range x.All() {
		if s.Has(name) != slices.Contains(want, name) {
			t.Errorf("%s: Has of %s: %t", what, short([]string{name}), s.Has(name))
		}
	}
}

// dh: the term of a secret and a public key.
func dh(t *testing.T, x *term.Table, secret, pub string) string {
	t.Helper()
	name, ok := x.Dh(secret, pub)
	if !ok {
		t.Fatal("no public key")
	}
	return name
}

// subsets: each choice of some of these.
func subsets(l ...string) [][]string {
	var out [][]string
	for bits := range 1 << len(l) {
		var some []string
		for i, s := range l {
			if bits>>i&1 == 1 {
				some = append(some, s)
			}
		}
		out = append(out, some)
	}
	return out
}

// orders: these in all orders.
func orders(l ...string) [][]string {
	if len(l) == 0 {
		return [][]string{nil}
	}
	var out [][]string
	for i, s := range l {
		for _, rest := range orders(slices.Concat(l[:i], l[i+1:])...) {
			out = append(out, append([]string{s}, rest...))
		}
	}
	return out
}

// The chapter's example.
func TestExample(t *testing.T) {
	table := term.New()
	k, x := table.Atom("k"), table.Atom("x")
	box := table.Seal(k, 0, "", x)
	if know.New(table, box).Has(x) {
		t.Error("of the box alone the text is known")
	}
	for _, told := range [][]string{{box, k}, {k, box}} {
		if !know.New(table, told...).Has(x) {
			t.Error("of the box and its key the text is not known")
		}
	}
	knows(t, "the box", table, []string{box}, box)
	knows(t, "the key", table, []string{k}, k)
	knows(t, "the text", table, []string{x}, x)
	knows(t, "the key and the text", table, []string{k, x}, k, x, box)
	knows(t, "the box and its text", table, []string{box, x}, box, x)
}

// P10.1: an atom is known to who was told it, whatever it is made of.
func TestAtoms(t *testing.T) {
	x := term.New()
	a, none, text := x.Atom("a"), x.Atom(""), x.Atom(joined("a"))
	of := x.Atom(a)
	knows(t, "nothing", x, nil)
	knows(t, "what it is made of", x, []string{"a", "", joined("a")})
	knows(t, "a", x, []string{a}, a)
	knows(t, "of a", x, []string{of}, of)
	knows(t, "all", x, []string{none, text, of}, none, text, of)
}

// P10.1: a public key is known by its secret, and tells nothing of it.
func TestPub(t *testing.T) {
	x := term.New()
	a, b := x.Atom("a"), x.Atom("b")
	p, q := x.Pub(a), x.Pub(b)
	of := x.Pub(p)
	both := x.Pub(joined("l", a, joined(b)))
	plain, none, empty := x.Pub("a"), x.Pub(""), x.Pub(joined())
	free := []string{plain, none, empty}
	tells := func(what string, told []string, want ...string) {
		t.Helper()
		knows(t, what, x, told, append(want, free...)...)
	}
	tells("nothing", nil)
	tells("a", []string{a}, a, p, of)
	tells("b", []string{b}, b, q)
	tells("both", []string{a, b}, a, b, p, q, of, both)
	tells("a public key", []string{p}, p, of)
	tells("that of a public key", []string{of}, of)
	tells("that of a text of texts", []string{both}, both)
	tells("that of a text", []string{plain})
}

// P10.1: a Dh is known by the one secret and the other one, or the other one's public key, if the table has that.
func TestDh(t *testing.T) {
	for _, order := range [][2]string{{"a", "b"}, {"b", "a"}} {
		for pubs := 1; pubs <= 3; pubs++ {
			for _, late := range []bool{false, true} {
				dhOf(t, order, pubs&1 != 0, pubs&2 != 0, late)
			}
		}
	}
}

// dhOf: of two secrets, of which the one, the other or both have their public keys in the table; the second one late, behind the Dh.
func dhOf(t *testing.T, order [2]string, mine, theirs, late bool) {
	x := term.New()
	atom := map[string]string{}
	for _, s := range order {
		atom[s] = x.Atom(s)
	}
	a, b := atom["a"], atom["b"]
	var p, q, shared string
	if mine {
		p = x.Pub(a)
	}
	if theirs && !(mine && late) {
		q = x.Pub(b)
	}
	if mine {
		shared = dh(t, x, b, p)
	} else {
		shared = dh(t, x, a, q)
	}
	if theirs {
		q = x.Pub(b)
	}
	for _, told := range subsets(a, b, p, q) {
		s := asWords(t, "Dh", x, told...)
		hasA, hasB := slices.Contains(told, a), slices.Contains(told, b)
		hasP, hasQ := mine && (hasA || slices.Contains(told, p)), theirs && (hasB || slices.Contains(told, q))
		want := hasA && hasB || hasA && hasQ || hasB && hasP
		if s.Has(shared) != want || s.Has(a) != hasA || s.Has(b) != hasB || mine && s.Has(p) != hasP || theirs && s.Has(q) != hasQ {
			t.Errorf("the order %v, public keys %t, %t, late %t, told %s: %s", order, mine, theirs, late, short(slices.DeleteFunc(told, func(s string) bool { return s == "" })), short(s.Terms()))
		}
	}
	knows(t, "the Dh alone", x, []string{shared}, shared)
}

// P10.1: a Dh of a secret with itself, and of secrets that are no terms.
func TestDhOfOthers(t *testing.T) {
	x := term.New()
	a, b := x.Atom("a"), x.Atom("b")
	p := x.Pub(a)
	own := dh(t, x, a, p)
	knows(t, "own, nothing", x, nil)
	knows(t, "own, of the public key", x, []string{p}, p)
	knows(t, "own, of the secret", x, []string{a}, a, p, own)
	plain := dh(t, x, "plain", p) // without the public key of "plain"
	knows(t, "plain, nothing", x, nil)
	knows(t, "plain, of b", x, []string{b}, b)
	knows(t, "plain, of a's public key", x, []string{p}, p, plain)
	knows(t, "plain, of a", x, []string{a}, a, p, own, plain)
	o := x.Pub("other")
	both := dh(t, x, b, o) // without the public key of b
	knows(t, "other, nothing", x, nil, o)
	knows(t, "other, of a", x, []string{a}, a, p, own, plain, o)
	knows(t, "other, of b", x, []string{b}, b, o, both)
	free := dh(t, x, "plain", o)
	knows(t, "free, nothing", x, nil, o, free)
	q := x.Pub(b)
	knows(t, "b's public key, too late for nothing", x, []string{q}, o, free, q, both)

	y := term.New()
	a, b = y.Atom("a"), y.Atom("b")
	l, m := joined("l", a), joined(joined(b), a)
	p, q = y.Pub(l), y.Pub(m)
	d := dh(t, y, l, q)
	knows(t, "of texts of texts: a", y, []string{a}, a, p)
	knows(t, "of texts of texts: a, and the other public key", y, []string{a, q}, a, p, q, d)
	knows(t, "of texts of texts: b", y, []string{b, p, q}, b, p, q)
	knows(t, "of texts of texts: all", y, []string{a, b}, a, b, p, q, d)
	z := term.New()
	a = z.Atom("a")
	p = z.Pub(z.Atom("b"))
	deep := dh(t, z, dh(t, z, a, p), p)
	if !know.New(z, a, p).Has(deep) || know.New(z, p).Has(deep) || know.New(z, a).Has(deep) {
		t.Error("a Dh of a Dh")
	}
}

// P10.1: what is made of the secret alone, and is no Pub, does not do in place of a public key.
func TestDhWithoutPub(t *testing.T) {
	x := term.New()
	a, b := x.Atom("a"), x.Atom("b")
	q := x.Pub(b)
	d := dh(t, x, a, q) // without the public key of a
	others := []string{x.Atom(a), x.Hash(a), x.Pub(joined(a)), x.Pub(x.Hash(a)), x.Seal(a, 0, a, a)}
	knows(t, "terms of a, and b", x, append([]string{b}, others...), append(others, b, q)...)
	own := x.Pub(a)
	knows(t, "a's public key, and b", x, []string{own, b}, own, b, q, d)
}

// P10.1: a Hash is known by all of its parts, and tells none.
func TestHash(t *testing.T) {
	x := term.New()
	a, b, c := x.Atom("a"), x.Atom("b"), x.Atom("c")
	none, plain, deep, zeros := x.Hash(), x.Hash("", "text", "\x00"), x.Hash(joined("x", joined("y"), joined())), x.Hash(named(0), "term")
	free := []string{none, plain, deep, zeros}
	one, two, again := x.Hash(a), x.Hash("label", a, b), x.Hash(b, a, a, b)
	in, far := x.Hash(joined(a, "x"), "more"), x.Hash(joined(joined(a), joined("x", joined(b, c))))
	of := x.Hash(one, "label")
	tells := func(what string, told []string, want ...string) {
		t.Helper()
		knows(t, what, x, told, append(want, free...)...)
	}
	tells("nothing", nil)
	tells("a", []string{a}, a, one, in, of)
	tells("b", []string{b}, b)
	tells("a and b", []string{a, b}, a, b, one, two, again, in, of)
	tells("a and c", []string{a, c}, a, c, one, in, of)
	tells("b and c", []string{b, c}, b, c)
	tells("all", []string{a, b, c}, a, b, c, one, two, again, in, far, of)
	tells("of a", []string{one}, one, of)
	tells("digests", []string{two, again, in, far, of}, two, again, in, far, of)
	tells("the texts of the parts", []string{"a", "b", "c", "label"})
}

// P10.1: of as many parts as there may be each one is needed.
func TestHashOfMany(t *testing.T) {
	x := term.New()
	var atoms []string
	for i := range 255 {
		atoms = append(atoms, x.Atom(codec.Num(uint64(i))))
	}
	h := x.Hash(atoms...)
	if s := know.New(x, atoms...); !s.Has(h) || len(s.Terms()) != 256 {
		t.Errorf("all: %d", len(s.Terms()))
	}
	for i := range atoms {
		if s := know.New(x, slices.Concat(atoms[:i], atoms[i+1:])...); s.Has(h) || len(s.Terms()) != 254 {
			t.Errorf("all but the %dth: %d", i, len(s.Terms()))
		}
	}
}

// P10.1: a box is known by its key, its ad and its text, whatever its number is.
func TestSealedOfParts(t *testing.T) {
	for _, n := range []uint64{0, 1, 255, 256, 1<<56 + 5, 0x010900, math.MaxUint64} {
		x := term.New()
		k, ad, m := x.Atom("k"), x.Atom("ad"), x.Atom("m")
		box := x.Seal(k, n, ad, m)
		for _, told := range subsets(k, ad, m) {
			want := told
			if len(told) == 3 {
				want = append(slices.Clone(told), box)
			}
			knows(t, fmt.Sprintf("of %d parts, number %d", len(told), n), x, told, want...)
		}
		knows(t, "the box", x, []string{box}, box)
	}
	x := term.New()
	k, ad, m := x.Atom("k"), x.Atom("ad"), x.Atom("m")
	boxes := map[string][]string{
		x.Seal(k, 1, "", ""): {k}, x.Seal("", 1, ad, ""): {ad}, x.Seal("", 1, "", m): {m}, x.Seal(k, 1, ad, "text"): {k, ad}, x.Seal("key", 1, ad, m): {ad, m}, x.Seal(k, 1, joined("ad"), m): {k, m},
		x.Seal(joined(k), 1, joined("x", ad), joined(joined(m), "y")): {k, ad, m}, x.Seal("key", 1, "ad", "text"): nil, x.Seal("", 0, "", ""): nil, x.Seal(joined(), 0, joined(), joined()): nil,
	}
	for _, told := range subsets(k, ad, m) {
		s := asWords(t, "boxes", x, told...)
		for box, need := range boxes {
			want := !slices.ContainsFunc(need, func(s string) bool { return !slices.Contains(told, s) })
			if s.Has(box) != want {
				t.Errorf("told %s: the box %s: %t", short(told), short([]string{box}), s.Has(box))
			}
		}
	}
}

// P10.1: a box that is told is opened, if its key is known, however it came to be; its ad stays.
func TestSealedOpened(t *testing.T) {
	x := term.New()
	k, ad, m, l := x.Atom("k"), x.Atom("ad"), x.Atom("m"), x.Atom("l")
	box := x.Seal(k, 3, ad, m)
	for _, told := range orders(box, k) {
		knows(t, "the box and its key", x, told, box, k, m)
	}
	knows(t, "the box and another key", x, []string{box, l}, box, l)
	knows(t, "the key and the ad", x, []string{k, ad}, k, ad)
	held := x.Seal(l, 0, "", k)
	for _, told := range orders(box, held, l) {
		knows(t, "the key is in another box", x, told, box, held, l, k, m)
	}
	knows(t, "the key is in a box that stays shut", x, []string{box, held}, box, held)
	knows(t, "the key is in a box that was not told", x, []string{box, l}, box, l)
	outer := x.Seal(k, 0, "", box)
	knows(t, "a box of one key in another one", x, []string{outer, k}, outer, box, k, m)
	knows(t, "the outer one alone", x, []string{outer}, outer)
}

// P10.1: the key that opens a box is a text that is known, of whatever kind.
func TestSealedByAnyKey(t *testing.T) {
	x := term.New()
	a, b, m := x.Atom("a"), x.Atom("b"), x.Atom("m")
	p := x.Pub(a)
	for what, c := range map[string]struct {
		key  string
		told []string
	}{
		"a text": {"key", nil}, "no byte": {"", nil}, "a text of no texts": {joined(), nil}, "a name that none has": {named(0), nil}, "an atom": {b, []string{b}},
		"a public key": {p, []string{p}}, "a public key, by its secret": {p, []string{a}}, "a digest": {x.Hash("key", b), []string{b}}, "a Dh": {dh(t, x, b, p), []string{b, p}},
		"a box": {x.Seal(b, 1, "", ""), []string{b}}, "a text of texts": {joined("x", joined(b), a), []string{a, b}},
	} {
		box := x.Seal(c.key, 7, x.Atom("some ad"), m)
		if !asWords(t, what, x, append([]string{box}, c.told...)...).Has(m) || !asWords(t, what, x, append(c.told, box)...).Has(m) {
			t.Errorf("%s: the box stays shut", what)
		}
		for i := range c.told {
			if asWords(t, what, x, slices.Concat([]string{box}, c.told[:i], c.told[i+1:])...).Has(m) {
				t.Errorf("%s: the box is opened by less", what)
			}
		}
	}
}

// P10.1: terms that name each other in a ring, or themselves, are known to who was told of them alone.
func TestRings(t *testing.T) {
	x := term.New()
	x.Pub(named(1))
	x.Hash(named(3))
	x.Hash(named(2), "label")
	x.Pub(named(5))
	x.Seal(named(4), 0, "", "")
	knows(t, "nothing", x, nil)
	knows(t, "the first", x, []string{named(1)}, named(1))
	knows(t, "one of two", x, []string{named(2)}, named(2), named(3))
	knows(t, "the other one", x, []string{named(3)}, named(2), named(3))
	knows(t, "a key of itself", x, []string{named(4)}, named(4), named(5))
	knows(t, "a box of its own", x, []string{named(5)}, named(4), named(5))

	y := term.New()
	y.Seal(named(1), 0, named(2), named(3)) // a box that is its own key
	m := []string{y.Atom("ad"), y.Atom("m"), y.Atom("k"), y.Atom("l")}
	knows(t, "its own key", y, []string{named(1)}, named(1), m[1])
	knows(t, "but not of its text and ad", y, []string{m[0], m[1]}, m[0], m[1])
	k, l := m[2], m[3]
	own := y.Seal(k, 1, "", k)
	one, two := y.Seal(k, 2, "", l), y.Seal(l, 2, "", k)
	knows(t, "a key in its own box", y, []string{own}, own)
	knows(t, "two keys, each in the other's box", y, []string{one, two}, one, two)
	knows(t, "and the key that is in the box", y, []string{two, k}, two, k, own)
	knows(t, "and the key of the box", y, []string{one, k}, one, two, k, l, own)
}

// P10.1: boxes in boxes are opened from the outermost one on, in whatever order the table has them and they are told.
func TestBoxesInBoxes(t *testing.T) {
	order := []int{0, 1, 2, 3}
	for _, seal := range orders("0", "1", "2", "3") {
		x := term.New()
		m := x.Atom("m")
		var keys []string
		for i := range order {
			keys = append(keys, x.Atom(fmt.Sprint("key", i)))
		}
		// Box i holds the one behind it and what opens that; which number each one has is known ahead.
		name := func(i int) string { return named(6 + slices.Index(seal, fmt.Sprint(i))) }
		for range seal {
			i := int(seal[len(x.All())-5][0] - '0')
			text := m
			if i < 3 {
				text = joined("next", name(i+1), joined(keys[i+1]))
			}
			if x.Seal(keys[i], uint64(i), "", text) != name(i) {
				t.Fatal("another number")
			}
		}
		all := x.All()
		for first := range order {
			want := append([]string{m}, keys[first:]...)
			for i := first; i < 4; i++ {
				want = append(want, name(i))
			}
			knows(t, fmt.Sprint("from ", first, " on, in the order ", seal), x, []string{keys[first], name(first)}, want...)
			knows(t, fmt.Sprint("shut ", first), x, []string{name(first)}, name(first))
		}
		// Who has the keys but the first, and the first box, has that alone and no text.
		knows(t, "the first key fails", x, append(keys[1:], name(0)), append(keys[1:], name(0))...)
		asWords(t, "all", x, all...)
	}
}

// P10.1: the text of a box is told as any text is: as deep as it may be, of names and of other texts.
func TestTextsOfBoxes(t *testing.T) {
	x := term.New()
	k, a, b, c := x.Atom("k"), x.Atom("a"), x.Atom("b"), x.Atom("c")
	deep := nested(a, (api.Bytes-api.KeySize)/5)
	if len(deep) > api.Bytes || len(joined(deep)) <= api.Bytes {
		t.Fatalf("%d bytes", len(deep))
	}
	for what, v := range map[string]struct {
		text  string
		gives []string
	}{
		"a name": {a, []string{a}}, "a text": {"a", nil}, "no text": {"", nil}, "a text of no texts": {joined(), nil}, "one of one name": {joined(a), []string{a}}, "of names": {joined(a, b, c), []string{a, b, c}},
		"of names and texts": {joined("x", b, "", joined(), "y", a, "\x01"), []string{a, b}}, "of texts of texts": {joined(joined(joined("x", a), b), joined(joined(joined(c)))), []string{a, b, c}},
		"as deep as may be": {deep, []string{a}}, "deep, and another one": {joined(nested(a, 700), b), []string{a, b}}, "one name often": {joined(slices.Repeat([]string{a}, 100)...), []string{a}},
		"near to a text of texts": {joined(a) + "\x00", nil}, "cut": {joined(a, b)[:60], nil}, "near to a name": {a[:31], nil}, "a name, and more": {a + "x", nil}, "of names that none has": {joined(named(0), b, named(1000)), []string{b}},
	} {
		box := x.Seal(k, 1, "", v.text)
		if box == "" {
			t.Fatal(what)
		}
		s := asWords(t, what, x, k, box)
		for _, name := range []string{a, b, c} {
			if s.Has(name) != slices.Contains(v.gives, name) {
				t.Errorf("%s: Has of %s: %t", what, short([]string{name}), s.Has(name))
			}
		}
		if want := 2 + len(v.gives); len(s.Terms()) < want {
			t.Errorf("%s: %s", what, short(s.Terms()))
		}
		if s := asWords(t, what+", shut", x, box); s.Has(a) || s.Has(b) || s.Has(c) {
			t.Errorf("%s: told without a key", what)
		}
		// And the other way round: a box of that text is known by its names.
		if s := asWords(t, what+", of its names", x, append(slices.Clone(v.gives), k)...); !s.Has(box) {
			t.Errorf("%s: not known by its names", what)
		}
		for i := range v.gives {
			if s := asWords(t, what+", of fewer names", x, append(slices.Concat(v.gives[:i], v.gives[i+1:]), k)...); s.Has(box) {
				t.Errorf("%s: known by fewer names", what)
			}
		}
	}
}

// P10.1: what is told by a text of texts, and by a text that is none.
func TestTold(t *testing.T) {
	x := term.New()
	a, b, c := x.Atom("a"), x.Atom("b"), x.Atom("c")
	for what, s := range map[string]struct {
		told  []string
		gives []string
	}{
		"names": {[]string{c, a}, []string{a, c}}, "a text of names": {[]string{joined(b, a)}, []string{a, b}}, "of texts of texts": {[]string{joined("x", joined(joined(c), ""), joined(a))}, []string{a, c}},
		"of no names": {[]string{joined("a", "b")}, nil}, "of no texts": {[]string{joined()}, nil}, "nothing": {[]string{""}, nil}, "texts": {[]string{"a", "b", "term", "\x00"}, nil},
		"two": {[]string{joined(a), "x", joined(c)}, []string{a, c}}, "much, and deep": {[]string{joined(nested(a, 780), nested(b, 793), "x", nested(c, 1))}, []string{a, b, c}}, "deeper than a part": {[]string{nested(b, 794)}, []string{b}},
		"as much as may be": {[]string{joined(append(slices.Repeat([]string{strings.Repeat("x", 4000)}, 7), b, strings.Repeat("y", 30000-3-7*4002-34-2))...)}, []string{b}},
		"one byte behind":   {[]string{joined(a) + "x"}, nil}, "one byte ahead": {[]string{"\x00" + joined(a)}, nil}, "one byte less": {[]string{joined(a)[:len(joined(a))-1]}, nil}, "another form": {[]string{"\x02" + joined(a)[1:]}, nil},
		"a wrong count": {[]string{"\x01\x09\x02" + joined(a)[3:]}, nil}, "too much": {[]string{"\x01\x09\x08" + strings.Repeat("\x0f\xa0"+strings.Repeat("x", 4000), 7) + "\x00\x20" + a + strings.Repeat("z", 3000)}, nil}, "a long part": {[]string{"\x01\x09\x02\x00\x20" + a + "\x0f\xa1" + strings.Repeat("x", 4001)}, nil},
		"two names as one text": {[]string{a + b}, nil}, "a part that is near": {[]string{joined(joined(a)+"x", b)}, []string{b}},
	} {
		knows(t, what, x, s.told, s.gives...)
		knows(t, what+", again", x, slices.Concat(s.told, s.told), s.gives...)
	}
	for _, kind := range []byte{0, 1, 70, 88, 255} {
		text, _ := codec.Join(kind, "x", a)
		knows(t, "of another kind", x, []string{text}, a)
	}
}

// nearNames: texts that are near to that name, and that no term has.
func nearNames(name string) []string {
	l := []string{"", "t", "term", name[:31], name[1:], name + "\x00", "\x00" + name, name + name, strings.ToUpper(name), strings.Repeat("\x00", 24) + name[24:], "term" + strings.Repeat("\x00", 21) + name[24:], "term" + strings.Repeat("\x00", 19) + name[24:]}
	for at := range 28 {
		b := []byte(name)
		b[at] ^= 1
		l = append(l, string(b))
	}
	return l
}

// P10.1, P10.2: a name that the table does not have is a text like others: told it tells nothing, and it is known.
func TestNamesOfNone(t *testing.T) {
	x := term.New()
	a := x.Atom("a")
	x.Pub("x")
	pub := named(2)
	for what, name := range map[string]string{"number 0": named(0), "one more than there are": named(9), "two more": named(10), "1 and 2^32": named(1<<32 + 1), "the greatest": named(-1)} {
		names := []string{name}
		if what == "number 0" {
			names = append(names, nearNames(a)...)
		}
		for _, name := range names {
			y := term.New()
			y.Atom("a")
			y.Pub("x")
			h, p, box := y.Hash(name), y.Pub(name), y.Seal(name, 1, name, joined(a, name))
			both, in, d := y.Hash(a, name), y.Hash(joined(name, "x")), dh(t, y, name, pub)
			if len(y.All()) != 8 {
				t.Fatal(what)
			}
			knows(t, what, y, []string{name}, pub, h, p, in, d)
			knows(t, what+", nothing", y, nil, pub, h, p, in, d)
			knows(t, what+", the box", y, []string{box}, pub, h, p, in, d, box, a, both)
			s := know.New(y)
			if !s.Has(name) || !s.Has(joined(name)) || s.Has(joined(name, a)) || !s.Has(joined("x", joined(name), pub)) {
				t.Errorf("%s: %q", what, name)
			}
		}
	}
}

// P10.1, P10.2: of what the table gets behind New a set knows nothing: its names are texts like others, as they were.
func TestLaterTerms(t *testing.T) {
	x := term.New()
	a, b := x.Atom("a"), x.Atom("b")
	q := x.Pub(b)
	d := dh(t, x, a, q) // without the public key of a
	box := x.Seal(a, 0, "", "text")
	told := []string{b, box}
	s, none := know.New(x, told...), know.New(x)
	was := s.Terms()
	next := len(x.All()) + 1
	ahead := s.Has(named(next))
	later := []string{x.Pub(a), x.Atom("later"), x.Hash(b), x.Hash(a), x.Seal(b, 0, "", a), x.Pub(b), x.Hash()}
	if later[0] != named(next) || later[5] != q {
		t.Fatal("other numbers")
	}
	for range 2 {
		if got := s.Terms(); !slices.Equal(got, was) || !slices.Equal(got, []string{b, q, box}) {
			t.Errorf("the terms %s, then %s", short(was), short(got))
		}
		if s.Has(a) || s.Has(d) || !s.Has(b) || !s.Has(q) || !s.Has(box) || len(none.Terms()) != 0 {
			t.Error("later terms have made a difference")
		}
		for _, name := range later[:5] {
			if !ahead || !s.Has(name) || !s.Has(joined(name, b)) || s.Has(joined(name, a)) || !none.Has(name) {
				t.Errorf("the later term %s", short([]string{name}))
			}
		}
		x.Seal("", 1, "", a)
	}
	// Who is asked for what there is now needs a new set.
	if s := asWords(t, "now", x, append(told, later[0])...); !s.Has(d) || s.Has(a) || s.Has(later[1]) || !s.Has(later[2]) || s.Has(later[3]) {
		t.Error(short(s.Terms()))
	}
}

// P10.2: what is no name and no text of texts is always known; a text of texts by all of its texts.
func TestHas(t *testing.T) {
	x := term.New()
	a, b := x.Atom("a"), x.Atom("b")
	for _, told := range [][]string{nil, {a}, {a, b}, {"x"}} {
		s := know.New(x, told...)
		for _, text := range []string{"", "a", "\x00", "\x01", "\x01\x00", "term", "any bytes", a[:31], a + "x", a + b, strings.Repeat("x", 1<<20), "\x01\x09\x01\x00\x20" + a + "x", "\x01\x09\x02\x00\x20" + a, "\x02\x09\x01\x00\x20" + a, strings.Repeat(a, 1000), "\x01\x09\x08" + strings.Repeat("\x0f\xa0"+a+strings.Repeat("x", 3968), 8)} {
			if !s.Has(text) {
				t.Errorf("told %d: %.40q (%d bytes) is not known", len(told), text, len(text))
			}
		}
		for _, text := range []string{joined(), joined(""), joined("a"), joined("a", joined("b"), joined()), nested("x", 795), joined(slices.Repeat([]string{"x"}, 255)...), "\x01\xff\x00"} {
			if !s.Has(text) {
				t.Errorf("told %d: %.40q (%d bytes), of texts, is not known", len(told), text, len(text))
			}
		}
		hasA, hasB := len(told) > 0 && told[0] == a, len(told) > 1
		for text, want := range map[string]bool{
			a: hasA, b: hasB, joined(a): hasA, joined(a, b): hasA && hasB, joined(b, a): hasA && hasB, joined("x", "y", b): hasB, joined(b, "x", "y"): hasB, joined("x", joined(joined(a), "y")): hasA,
			nested(a, 794): hasA, nested(b, 794): hasB, joined(append(slices.Repeat([]string{"x"}, 254), b)...): hasB, joined(nested(b, 780), a): hasA && hasB, joined(a, a+"x"): hasA,
		} {
			if s.Has(text) != want || s.Has(text) != want {
				t.Errorf("told %d: %.40q (%d bytes): %t", len(told), text, len(text), s.Has(text))
			}
		}
	}
}

// P10.1: who was told nothing knows what is made of nothing that is to be told.
func TestNothingTold(t *testing.T) {
	x := term.New()
	a := x.Atom("a")
	p, h := x.Pub("x"), x.Hash()
	x.Pub(a)
	box := x.Seal(h, 1, "ad", "text")
	x.Seal(h, 1, "ad", a)
	for _, told := range [][]string{nil, {}, {""}, {"x"}, {joined()}, {named(0)}} {
		knows(t, "nothing told", x, told, p, h, box, dh(t, x, "y", p))
	}
}

// P10.1: a table without terms, one that no call made, and none.
func TestNoTerms(t *testing.T) {
	for what, x := range map[string]*term.Table{"new": term.New(), "zero": {}} {
		for _, told := range [][]string{nil, {"a"}, {named(1), joined(named(1))}} {
			s := know.New(x, told...)
			if s == nil || len(s.Terms()) != 0 || !s.Has("a") || !s.Has("") || !s.Has(named(1)) || !s.Has(joined(named(1), "x")) || !s.Has(joined()) {
				t.Errorf("%s, told %q", what, told)
			}
		}
	}
	for _, told := range [][]string{nil, {}, {"a"}, {named(1)}} {
		if s := know.New(nil, told...); s != nil || s.Has("a") || len(s.Terms()) != 0 {
			t.Errorf("of no table, told %q, there is a set", told)
		}
	}
}

// R7, P10.2: a set that no call made has nothing.
func TestNoSet(t *testing.T) {
	for what, s := range map[string]*know.Set{"nil": nil, "zero": {}, "made by new": new(know.Set)} {
		for range 2 {
			for _, text := range []string{"", "a", named(0), named(1), joined(), joined("a"), joined(named(1))} {
				if s.Has(text) {
					t.Errorf("%s: Has(%q)", what, text)
				}
			}
			if l := s.Terms(); len(l) != 0 {
				t.Errorf("%s: Terms: %q", what, l)
			}
		}
	}
}

// talk: a table of some of each, and what may be told of it.
func talk(t *testing.T) (*term.Table, []string) {
	x := term.New()
	a, b, m := x.Atom("a"), x.Atom("b"), x.Atom("m")
	p, q := x.Pub(a), x.Pub(b)
	k := x.Hash("key", dh(t, x, a, q))
	box := x.Seal(k, 3, p, joined(m, "more"))
	outer := x.Seal(x.Hash("open"), 0, "", box)
	return x, []string{a, p, q, k, outer, joined(m, b)}
}

// P10.1: the order in which things are told, and that they are told twice, makes no difference; terms stand in the table's order.
func TestInWhateverOrder(t *testing.T) {
	x, all := talk(t)
	for _, told := range subsets(all...) {
		want := asWords(t, "some", x, told...).Terms()
		if !slices.IsSorted(want) || len(slices.Compact(slices.Clone(want))) != len(want) {
			t.Errorf("not in the table's order: %s", short(want))
		}
		back := slices.Clone(told)
		slices.Reverse(back)
		for what, l := range map[string][]string{"twice": slices.Concat(told, told), "back": back, "both": slices.Concat(back, told), "in others": {nested(joined(back...), 3)}, "one by one, deep": {joined(nested(joined(told...), 2), joined(back...))}} {
			if got := know.New(x, l...).Terms(); !slices.Equal(got, want) {
				t.Errorf("%s: %s, not %s", what, short(got), short(want))
			}
		}
	}
	for _, told := range orders(all[:5]...) {
		if got := know.New(x, told...).Terms(); !slices.Equal(got, know.New(x, all[:5]...).Terms()) {
			t.Errorf("in another order: %s", short(got))
		}
	}
}

// more: P10.3 of who was told these, and of who is told one more.
func more(t *testing.T, x *term.Table, told []string, one string) {
	t.Helper()
	s := know.New(x, told...)
	terms := s.Terms()
	for what, l := range map[string][]string{"all that is known": terms, "what was told, and what is known": slices.Concat(told, terms), "what is known, as one": {joinedAll(terms)}} {
		if got := know.New(x, l...).Terms(); !slices.Equal(got, terms) {
			t.Errorf("told %s: %s, not %s", what, short(got), short(terms))
		}
	}
	behind := know.New(x, append(slices.Clone(told), one)...)
	for _, name := range terms {
		if !behind.Has(name) {
			t.Errorf("told more: %s is not known any more", short([]string{name}))
		}
	}
	if got := behind.Terms(); s.Has(one) && !slices.Equal(got, terms) {
		t.Errorf("told what is known: %s, not %s", short(got), short(terms))
	}
	if !behind.Has(one) {
		t.Errorf("%.40q was told, and is not known", one)
	}
}

// joinedAll: any number of short texts as one.
func joinedAll(l []string) string {
	var parts []string
	for piece := range slices.Chunk(l, 100) {
		parts = append(parts, joined(piece...))
	}
	return joined(parts...)
}

// P10.3.
func TestMore(t *testing.T) {
	x, all := talk(t)
	for _, told := range subsets(all...) {
		for _, one := range slices.Concat(all, x.All(), []string{"", "x", joined(), named(0), named(99), joined("x", all[0], joined(all[4]))}) {
			more(t, x, told, one)
		}
	}
}

// R4: a set is as it was made, whatever is asked and whatever other sets there are.
func TestApart(t *testing.T) {
	x, all := talk(t)
	one, two := know.New(x, all[0]), know.New(x, all[1:]...)
	was, too := one.Terms(), two.Terms()
	for range 3 {
		know.New(x, all...)
		for _, name := range x.All() {
			if one.Has(name) != slices.Contains(was, name) || two.Has(name) != slices.Contains(too, name) {
				t.Errorf("%s is known otherwise", short([]string{name}))
			}
		}
		if !slices.Equal(one.Terms(), was) || !slices.Equal(two.Terms(), too) || slices.Equal(was, too) {
			t.Error("other terms")
		}
	}
	if !slices.Equal(know.New(x, all[0]).Terms(), was) {
		t.Error("told the same, another set")
	}
}

// R6: the table gets no term, and what is told stays, also what lies behind its end.
func TestArgumentsStay(t *testing.T) {
	x, all := talk(t)
	names := x.All()
	room := append(slices.Clone(all), "behind", "it")
	was := slices.Clone(room)
	s := know.New(x, room[:len(all)]...)
	want := s.Terms()
	for _, text := range room {
		s.Has(text)
	}
	if !slices.Equal(room, was) || !slices.Equal(x.All(), names) {
		t.Error("what was handed in has changed")
	}
	clear(room)
	if !slices.Equal(s.Terms(), want) || !s.Has(all[0]) {
		t.Error("what was told is written over, and the set has changed")
	}
}

// loose: a text in bytes that are written over later.
func loose(s string) (string, []byte) {
	b := []byte(s)
	return unsafe.String(unsafe.SliceData(b), len(b)), b
}

// R6: no text that is told or asked is kept: each one lies in bytes that are written over behind the call.
func TestArgumentsAreNotKept(t *testing.T) {
	x, all := talk(t)
	var told []string
	var room [][]byte
	for _, s := range all {
		text, b := loose(s)
		told, room = append(told, text), append(room, b)
	}
	s := know.New(x, told...)
	for _, text := range told {
		s.Has(text)
	}
	for _, b := range room {
		clear(b)
	}
	want := know.New(x, all...).Terms()
	if got := s.Terms(); !slices.Equal(got, want) {
		t.Errorf("%s, not %s", short(got), short(want))
	}
	for _, name := range x.All() {
		if s.Has(name) != slices.Contains(want, name) {
			t.Errorf("Has of %s: %t", short([]string{name}), s.Has(name))
		}
	}
}

// shares: does one text lie in the memory of the other?
func shares(a, b string) bool {
	from, other := uintptr(unsafe.Pointer(unsafe.StringData(a))), uintptr(unsafe.Pointer(unsafe.StringData(b)))
	return from < other+uintptr(len(b)) && other < from+uintptr(len(a))
}

// R6: what Terms answers is new memory, list and texts.
func TestAnswersAreNew(t *testing.T) {
	x, all := talk(t)
	s := know.New(x, all...)
	want := s.Terms()
	one, two := s.Terms(), s.Terms()
	for _, a := range one {
		for _, b := range slices.Concat(two, all) {
			if shares(a, b) {
				t.Fatalf("%q and %q lie in one memory", a, b)
			}
		}
	}
	one = one[:cap(one)]
	for i := range one {
		one[i] = "written over"
	}
	if !slices.Equal(two, want) || !slices.Equal(s.Terms(), want) || !s.Has(want[0]) {
		t.Error("a list was written over, and another one has changed")
	}
	two = append(two[:1], "behind")
	if !slices.Equal(s.Terms(), want) || len(two) != 2 {
		t.Error("a list was written on, and another one has changed")
	}
}

// rows: kinds of terms of which each hangs on the one behind it; the last one is told.
var rows = map[string]func(x *term.Table, n int){
	"public keys":              func(x *term.Table, n int) { x.Pub(named(n + 1)) },
	"digests":                  func(x *term.Table, n int) { x.Hash("label", joined("x", named(n+1))) },
	"boxes that are made":      func(x *term.Table, n int) { x.Seal("key", 1, named(n+1), "text") },
	"keys of boxes":            func(x *term.Table, n int) { x.Seal(named(n+1), 1, "", joined("x")) },
	"each by two, and by more": func(x *term.Table, n int) { x.Hash(named(n+1), named(n+1), named(n+2)) },
}

// P10.1: many terms that hang on the last one; who goes through all of them for each one is here for hours.
func TestRow(t *testing.T) {
	const many = 60000
	for what, make := range rows {
		x := term.New()
		for n := 1; n <= many; n++ {
			make(x, n)
		}
		last, behind := x.Atom("last"), x.Atom("behind it")
		if got := know.New(x, behind).Terms(); !slices.Equal(got, []string{behind}) {
			t.Errorf("%s: without the last one: %d", what, len(got))
		}
		s := know.New(x, last, behind)
		if got := s.Terms(); len(got) != many+2 || !s.Has(named(1)) || !slices.Equal(got, x.All()) {
			t.Errorf("%s: %d", what, len(got))
		}
	}
}

// P10.1: boxes of which each has the key of the one ahead of it, and public keys whose Dh is the next one's key.
func TestRowOfBoxes(t *testing.T) {
	const many = 20000
	x := term.New()
	var keys, boxes []string
	for i := range uint64(many) {
		keys = append(keys, x.Atom(codec.Num(i)))
	}
	for i := range many - 1 {
		boxes = append(boxes, x.Seal(keys[i+1], 0, "", joined("key", keys[i])))
	}
	if got := know.New(x, boxes...).Terms(); len(got) != len(boxes) {
		t.Errorf("shut: %d", len(got))
	}
	if s := know.New(x, append(boxes, keys[many-1])...); len(s.Terms()) != 2*many-1 || !s.Has(keys[0]) {
		t.Errorf("opened: %d", len(s.Terms()))
	}
	if s := know.New(x, append(boxes, keys[many/2])...); len(s.Terms()) != many-1+many/2+1 || s.Has(keys[many/2+1]) {
		t.Errorf("opened from the middle on: %d", len(s.Terms()))
	}

	y := term.New()
	base := y.Pub(y.Atom("base"))
	secret := y.Atom("secret")
	for range many {
		secret = dh(t, y, secret, base)
	}
	if s := know.New(y, base, named(3)); len(s.Terms()) != many+2 || !s.Has(secret) || s.Has(named(1)) {
		t.Errorf("Dh of Dh: %d", len(s.Terms()))
	}
}

// random: a table as chance has it, of few texts, with names of terms that it has, will have, or never has.
func random(r *rand.Rand, size int) (*term.Table, func() string) {
	x := term.New()
	var text func() string
	text = func() string {
		switch r.Intn(8) {
		case 0:
			return "ab"[:r.Intn(3)]
		case 1:
			return joined("x", text())
		case 2:
			return joined(text(), text())
		}
		return named(r.Intn(size + 2))
	}
	for i := 0; len(x.All()) < size; i++ {
		switch r.Intn(6) {
		case 0:
			x.Atom(codec.Num(uint64(i)))
		case 1:
			x.Pub(text())
		case 2:
			x.Dh(text(), named(1+r.Intn(size)))
		case 3:
			x.Hash(text(), text())
		default:
			x.Seal(text(), uint64(i), text(), text())
		}
	}
	return x, text
}

// P10.1 to P10.3, as chance has it.
func TestAsWords(t *testing.T) {
	for seed := range int64(1500) {
		r := rand.New(rand.NewSource(seed))
		x, text := random(r, 3+r.Intn(40))
		var told []string
		for range r.Intn(6) {
			told = append(told, text())
		}
		asWords(t, fmt.Sprint("seed ", seed), x, told...)
		more(t, x, told, text())
		if t.Failed() {
			t.Fatalf("seed %d", seed)
		}
	}
}

func FuzzAsWords(f *testing.F) {
	f.Add(int64(1), byte(10), "", "")
	f.Add(int64(2), byte(30), named(1), joined(named(2), named(3)))
	f.Add(int64(3), byte(60), joined(joined(named(4)))+"x", "\x01\x00")
	f.Fuzz(func(t *testing.T, seed int64, size byte, a, b string) {
		r := rand.New(rand.NewSource(seed))
		x, text := random(r, int(size))
		x.Hash(a, b)
		x.Seal(a, 1, "", b)
		x.Seal(text(), 1, a, b)
		x.Pub(b)
		told := []string{a, text(), b}
		asWords(t, "told", x, told...)
		more(t, x, told[1:], a)
	})
}

func BenchmarkRow(b *testing.B) {
	x := term.New()
	for n := 1; n <= 10000; n++ {
		x.Hash("label", named(n+1))
	}
	last := x.Atom("last")
	for b.Loop() {
		know.New(x, last)
	}
}

func BenchmarkDeep(b *testing.B) {
	x := term.New()
	a := x.Atom("a")
	s, text := know.New(x, a), nested(a, 793)
	for b.Loop() {
		s.Has(text)
	}
}
