package cipher_test

import (
	"fmt"
	"math"
	"math/rand"
	"slices"
	"strings"
	"testing"
	"unsafe"

	"signetring/api"
	"signetring/cipher"
	"signetring/prims"
	"signetring/term"
)

const (
	mostSealed = 60000 // bytes of a text, or of ad, of a box of bytes
	mostPart   = 4000  // bytes of a part of a term
	last       = math.MaxUint64
)

// Numbers that a key may be used with, ordinary ones and edges.
var numbers = []uint64{0, 1, 2, 7, 255, 256, 65535, 65536, math.MaxUint32, math.MaxUint32 + 1, math.MaxInt64, math.MaxInt64 + 1, last - 2, last - 1}

// ordinary: bytes of no special kind, the same ones at each run.
func ordinary(seed int64, n int) string {
	r := rand.New(rand.NewSource(seed))
	b := make([]byte, n)
	for i := range b {
		b[i] = byte(r.Intn(256))
	}
	return string(b)
}

func key(seed int64) string { return ordinary(seed, api.KeySize) }

// noKeys: texts that are no keys of bytes; none of them is "", which is no key at all.
func noKeys() []string {
	k := key(1)
	return []string{"x", "\x00", k[:31], k[1:], k + "\x00", "\x00" + k, k + k, strings.Repeat("\x00", 31), strings.Repeat("\x00", 33), strings.Repeat("é", 32)}
}

// flipped: with one bit turned.
func flipped(s string, bit int) string {
	b := []byte(s)
	b[bit/8] ^= 1 << (bit % 8)
	return string(b)
}

// kind: prims of bytes, or of terms of a new table.
type kind struct {
	name string
	prims.Prims
	most int // bytes of a text, or of ad
}

func (k kind) ofBytes() bool { return k.most == mostSealed }

func both() []kind {
	return []kind{{"of bytes", prims.Real(), mostSealed}, {"of terms", prims.Symbol(term.New()), mostPart}}
}

// does: Seal or Open.
type does func(p prims.Prims, s cipher.State, ad, text string) (cipher.State, string, api.Errno)

// Both calls, where the same is asked of them.
var calls = []struct {
	name string
	does
}{{"Seal", cipher.Seal}, {"Open", cipher.Open}}

// tell: a state, in a line.
func tell(s cipher.State) string { return fmt.Sprintf("(%.40x, %d)", s.Key, s.N) }

// answers: the call answers just this; and once more the same (R4).
func answers(t *testing.T, call does, p prims.Prims, s cipher.State, ad, text string, next cipher.State, want string, wantNo api.Errno) {
	t.Helper()
	for range 2 {
		if x, got, no := call(p, s, ad, text); x != next || got != want || no != wantNo {
			t.Errorf("of %s, ad %.40q, %.40q (%d bytes): %s, %.40q (%d bytes), %d; not %s, %.40q (%d bytes), %d", tell(s), ad, text, len(text), tell(x), got, len(got), no, tell(next), want, len(want), wantNo)
		}
	}
}

// refused: the call answers an error, no text, and the state as it is.
func refused(t *testing.T, call does, p prims.Prims, s cipher.State, ad, text string, want api.Errno) {
	t.Helper()
	answers(t, call, p, s, ad, text, s, "", want)
}

// used: a state whose number was used.
func used(s cipher.State) cipher.State { return cipher.State{Key: s.Key, N: s.N + 1} }

// witness: prims that answer as they are told, and tell what was asked.
type witness struct {
	prims.Prims // nil: no other call is asked for
	asked       []string
	n           []uint64
	told        string
	no          api.Errno
}

func (w *witness) ask(call, key string, n uint64, ad, text string) {
	w.asked, w.n = append(w.asked, call, key, ad, text), append(w.n, n)
}

func (w *witness) Seal(key string, n uint64, ad, text string) string {
	w.ask("Seal", key, n, ad, text)
	return w.told
}

func (w *witness) Open(key string, n uint64, ad, box string) (string, api.Errno) {
	w.ask("Open", key, n, ad, box)
	return w.told, w.no
}

// The chapter's example.
func TestExample(t *testing.T) {
	for _, p := range both() {
		answers(t, cipher.Seal, p, cipher.State{}, "", "abc", cipher.State{}, "abc", api.OK)
		answers(t, cipher.Seal, p, cipher.State{}, "ad", "abc", cipher.State{}, "abc", api.OK)
	}
}

// P12.1, P12.2: without prims there is nothing else to tell, with a key or without one, at the end, too (R2).
func TestNil(t *testing.T) {
	for _, c := range calls {
		for _, k := range []string{"", "x", key(1)} {
			for _, n := range append(numbers, last) {
				for _, text := range []string{"", "abc", ordinary(1, mostSealed+1)} {
					refused(t, c.does, nil, cipher.State{Key: k, N: n}, "", text, api.ErrNil)
					refused(t, c.does, nil, cipher.State{Key: k, N: n}, "ad", text, api.ErrNil)
				}
			}
		}
		refused(t, c.does, prims.Symbol(nil), cipher.State{Key: key(1)}, "", "abc", api.ErrNil)
	}
}

// P12.1, P12.2: without a key a text is what it is, at the end and if it is too long, too, and nothing is counted or asked.
func TestWithoutAKey(t *testing.T) {
	w := &witness{told: "told", no: api.ErrTag}
	all := []prims.Prims{w}
	for _, p := range both() {
		all = append(all, p)
	}
	for _, c := range calls {
		for i, p := range all {
			for _, n := range append(numbers, last) {
				for _, text := range []string{"", "a", "abc", "\x00", key(1), "é\xff", ordinary(2, mostPart+1), ordinary(3, mostSealed+1)} {
					for _, ad := range []string{"", "ad", ordinary(4, mostSealed+1)} {
						s := cipher.State{N: n}
						answers(t, c.does, p, s, ad, text, s, text, api.OK)
					}
				}
			}
			if len(w.asked) != 0 {
				t.Errorf("%s, number %d: %q was asked", c.name, i, w.asked)
			}
		}
	}
}

// P12.1, P12.2: behind the greatest number there is none, so it isn't used; that is told ahead of all that prims would (R2).
func TestEnd(t *testing.T) {
	for _, p := range both() {
		for _, k := range append(noKeys(), key(1)) {
			s := cipher.State{Key: k, N: last}
			for _, ad := range []string{"", "ad", ordinary(1, p.most+1)} {
				for _, text := range []string{"", "abc", ordinary(2, 100), ordinary(3, p.most), ordinary(4, p.most+1)} {
					refused(t, cipher.Seal, p, s, ad, text, api.ErrEnd)
					refused(t, cipher.Open, p, s, ad, text, api.ErrEnd)
				}
			}
			if box := p.Seal(k, last, "ad", "text"); box == "" && len(k) == api.KeySize {
				t.Errorf("%s: no box of the greatest number", p.name)
			} else {
				refused(t, cipher.Open, p, s, "ad", box, api.ErrEnd)
			}
		}
	}
	w := &witness{told: "told"}
	for _, c := range calls {
		refused(t, c.does, w, cipher.State{Key: key(1), N: last}, "ad", "text", api.ErrEnd)
		if len(w.asked) != 0 {
			t.Errorf("%s: %q was asked", c.name, w.asked)
		}
	}
}

// P12.1, P12.2: the number ahead of the greatest one is the last to be used.
func TestLast(t *testing.T) {
	for _, p := range both() {
		s, end := cipher.State{Key: key(1), N: last - 1}, cipher.State{Key: key(1), N: last}
		box := p.Seal(key(1), last-1, "ad", "text")
		answers(t, cipher.Seal, p, s, "ad", "text", end, box, api.OK)
		answers(t, cipher.Open, p, s, "ad", box, end, "text", api.OK)
		refused(t, cipher.Open, p, s, "da", box, api.ErrTag)
		for range 2 {
			refused(t, cipher.Seal, p, end, "ad", "text", api.ErrEnd)
			refused(t, cipher.Open, p, end, "ad", box, api.ErrEnd)
		}
	}
}

// P12.1, P12.2: what the given prims seal and open, by any key and number, and the number one more.
func TestAsPrims(t *testing.T) {
	for _, p := range both() {
		keys := []string{key(1), key(2), strings.Repeat("\x00", 32), strings.Repeat("é", 16)}
		if !p.ofBytes() {
			keys = append(keys, noKeys()...)
		}
		for _, k := range keys {
			for _, n := range numbers {
				s := cipher.State{Key: k, N: n}
				for _, ad := range []string{"", "ad", "\x00", ordinary(3, p.most)} {
					for _, text := range []string{"", "a", "some text", ordinary(4, 64), ordinary(5, p.most)} {
						box := p.Seal(k, n, ad, text)
						if box == "" {
							t.Fatalf("%s: no box", p.name)
						}
						answers(t, cipher.Seal, p, s, ad, text, used(s), box, api.OK)
						answers(t, cipher.Open, p, s, ad, box, used(s), text, api.OK)
					}
				}
			}
		}
	}
}

// P12.1: what the prims can't seal is too long, or by no key.
func TestNotSealed(t *testing.T) {
	for _, p := range both() {
		for _, n := range numbers {
			s := cipher.State{Key: key(1), N: n}
			for _, more := range []int{1, 2, 1000, p.most} {
				long := ordinary(int64(more), p.most+more)
				refused(t, cipher.Seal, p, s, "", long, api.ErrBig)
				refused(t, cipher.Seal, p, s, "ad", long, api.ErrBig)
				refused(t, cipher.Seal, p, s, long, "text", api.ErrBig)
				refused(t, cipher.Seal, p, s, long, long, api.ErrBig)
			}
			for _, k := range noKeys() {
				s := cipher.State{Key: k, N: n}
				if p.ofBytes() {
					refused(t, cipher.Seal, p, s, "ad", "text", api.ErrBig)
					refused(t, cipher.Seal, p, s, "", "", api.ErrBig)
				} else {
					answers(t, cipher.Seal, p, s, "ad", "text", used(s), p.Seal(k, n, "ad", "text"), api.OK)
				}
			}
		}
		s := cipher.State{Key: ordinary(1, mostPart+1), N: 7}
		refused(t, cipher.Seal, p, s, "ad", "text", api.ErrBig)
	}
}

// P12.2: each error of the prims, with no text and the state as it is.
func TestNotOpened(t *testing.T) {
	for _, p := range both() {
		long := ordinary(1, mostSealed+1000)
		for _, n := range numbers {
			s := cipher.State{Key: key(1), N: n}
			for _, box := range []string{"", "x", "abc", ordinary(2, 15), ordinary(3, 16), ordinary(4, 17), ordinary(5, 100), long} {
				for _, ad := range []string{"", "ad", long} {
					want := api.ErrTag
					switch {
					case p.ofBytes() && max(len(ad), len(box)-api.TagSize) > p.most:
						want = api.ErrBig
					case p.ofBytes() && len(box) < api.TagSize:
						want = api.ErrForm
					}
					if _, no := p.Open(key(1), n, ad, box); no != want {
						t.Fatalf("%s: the prims answer %d, not %d", p.name, no, want)
					}
					refused(t, cipher.Open, p, s, ad, box, want)
				}
			}
			want := api.ErrKey
			if !p.ofBytes() {
				want = api.ErrTag
			}
			for _, k := range noKeys() {
				for _, box := range []string{"", "abc", p.Seal(key(1), n, "ad", "text"), long} {
					refused(t, cipher.Open, p, cipher.State{Key: k, N: n}, "ad", box, want)
				}
			}
		}
	}
}

// P12.2: a box that is not just that one, or is opened by another key, number or ad.
func TestOtherBoxes(t *testing.T) {
	for _, p := range both() {
		for _, text := range []string{"", "some text"} {
			s := cipher.State{Key: key(1), N: 7}
			box := p.Seal(s.Key, s.N, "ad", text)
			as := func(s cipher.State, ad, box string) {
				t.Helper()
				_, no := p.Open(s.Key, s.N, ad, box)
				if no == api.OK {
					t.Fatalf("%s: another box is opened", p.name)
				}
				refused(t, cipher.Open, p, s, ad, box, no)
			}
			for bit := range 8 * len(box) {
				as(s, "ad", flipped(box, bit))
			}
			for n := range len(box) {
				as(s, "ad", box[:n])
				as(s, "ad", box[n+1:])
			}
			for _, other := range []string{box + "\x00", "\x00" + box, box + box, text, "another box, which is none"} {
				as(s, "ad", other)
			}
			for bit := range 8 * api.KeySize {
				as(cipher.State{Key: flipped(s.Key, bit), N: s.N}, "ad", box)
			}
			for bit := range 64 {
				as(cipher.State{Key: s.Key, N: s.N ^ 1<<bit}, "ad", box)
			}
			for _, ad := range []string{"", "a", "da", "ad\x00", "\x00ad", "adad", box} {
				as(s, ad, box)
			}
			as(used(s), "ad", box)
			as(cipher.State{Key: s.Key, N: s.N - 1}, "ad", box)
			answers(t, cipher.Open, p, s, "ad", box, used(s), text, api.OK)
		}
	}
}

// P12.1, P12.2: the prims are asked once, by key, number, ad and text, and what they tell is the answer, whatever it is.
func TestAskedOnce(t *testing.T) {
	s := cipher.State{Key: "a key", N: 258}
	ask := func(name string, call does, w *witness, next cipher.State, want string, wantNo api.Errno) {
		t.Helper()
		x, got, no := call(w, s, "the ad", "the text")
		if x != next || got != want || no != wantNo {
			t.Errorf("%s, %q and %d were told: %s, %q, %d", name, w.told, w.no, tell(x), got, no)
		}
		if !slices.Equal(w.asked, []string{name, "a key", "the ad", "the text"}) || w.n[0] != 258 {
			t.Errorf("%s: %q was asked, %d", name, w.asked, w.n)
		}
	}
	for _, told := range []string{"told", "\x00", "the text", key(1)} {
		ask("Seal", cipher.Seal, &witness{told: told, no: api.ErrTag}, used(s), told, api.OK)
		ask("Open", cipher.Open, &witness{told: told}, used(s), told, api.OK)
	}
	ask("Seal", cipher.Seal, &witness{}, s, "", api.ErrBig)
	ask("Open", cipher.Open, &witness{}, used(s), "", api.OK)
	for no := api.ErrNil; no <= api.ErrWait; no++ {
		ask("Open", cipher.Open, &witness{no: no}, s, "", no)
		ask("Open", cipher.Open, &witness{told: "beside an error", no: no}, s, "", no)
	}
}

// A table that no call made has no room for terms: nothing is sealed or opened, and a state without a key needs none (R7).
func TestZeroTable(t *testing.T) {
	p := prims.Symbol(new(term.Table))
	s := cipher.State{Key: key(1), N: 7}
	refused(t, cipher.Seal, p, s, "ad", "text", api.ErrBig)
	_, no := p.Open(s.Key, s.N, "ad", "box")
	refused(t, cipher.Open, p, s, "ad", "box", no)
	answers(t, cipher.Seal, p, cipher.State{N: 7}, "ad", "text", cipher.State{N: 7}, "text", api.OK)
	answers(t, cipher.Open, p, cipher.State{N: 7}, "ad", "box", cipher.State{N: 7}, "box", api.OK)
}

// P12.3: two states that are the same stay so, in a row of boxes.
func TestInStep(t *testing.T) {
	for _, p := range both() {
		for _, k := range []string{"", key(1), key(2)} {
			for _, n := range []uint64{0, 7, 254, 65534, math.MaxUint32 - 1, last - 12} {
				a, b := cipher.State{Key: k, N: n}, cipher.State{Key: k, N: n}
				seen := map[string]bool{}
				for i := range 12 {
					ad, text := ordinary(int64(i%3), i), ordinary(int64(i%2), 2*i)
					x, box, no := cipher.Seal(p, a, ad, text)
					y, got, too := cipher.Open(p, b, ad, box)
					if x != y || got != text || no != api.OK || too != api.OK {
						t.Fatalf("%s, %d: %s and %s, %q, %d, %d", p.name, i, tell(x), tell(y), got, no, too)
					}
					if k != "" && (seen[box] || x.N != n+uint64(i)+1 || x.Key != k) {
						t.Errorf("%s, %d: a box that was there, or %s", p.name, i, tell(x))
					}
					seen[box], a, b = true, x, y
				}
			}
		}
	}
}

// P12.3: the same text twice is two boxes, each with a place of its own in the row.
func TestOrder(t *testing.T) {
	for _, p := range both() {
		s := cipher.State{Key: key(1)}
		first, one, _ := cipher.Seal(p, s, "ad", "text")
		second, two, _ := cipher.Seal(p, first, "ad", "text")
		if one == two {
			t.Errorf("%s: one box, twice", p.name)
		}
		refused(t, cipher.Open, p, s, "ad", two, api.ErrTag)
		answers(t, cipher.Open, p, s, "ad", one, first, "text", api.OK)
		refused(t, cipher.Open, p, first, "ad", one, api.ErrTag)
		answers(t, cipher.Open, p, first, "ad", two, second, "text", api.OK)
	}
}

// P12.3: what is not sealed or not opened changes nothing: the row goes on as if it had not been there.
func TestNothingChanges(t *testing.T) {
	for _, p := range both() {
		a, b := cipher.State{Key: key(1), N: 7}, cipher.State{Key: key(1), N: 7}
		for i := range 5 {
			x, _, no := cipher.Seal(p, a, "ad", ordinary(1, p.most+1))
			if x != a || no != api.ErrBig {
				t.Fatalf("%s, %d: %s, %d", p.name, i, tell(x), no)
			}
			x, box, _ := cipher.Seal(p, x, "ad", "text")
			y := b
			for _, wrong := range []string{"", "x", flipped(box, 0), flipped(box, 8*len(box)-1), box[1:], box + "x"} {
				var text string
				if y, text, no = cipher.Open(p, y, "ad", wrong); y != b || text != "" || no == api.OK {
					t.Fatalf("%s, %d: %s, %q, %d", p.name, i, tell(y), text, no)
				}
			}
			y, text, no := cipher.Open(p, y, "ad", box)
			if y != x || text != "text" || no != api.OK {
				t.Fatalf("%s, %d: %s, not %s; %q, %d", p.name, i, tell(y), tell(x), text, no)
			}
			a, b = x, y
		}
	}
}

// P12.3: states are values: those that were there stay, and answer as they did.
func TestStatesStay(t *testing.T) {
	for _, p := range both() {
		row := []cipher.State{{Key: key(1)}}
		var boxes []string
		for range 6 {
			x, box, _ := cipher.Seal(p, row[len(row)-1], "ad", "text")
			row, boxes = append(row, x), append(boxes, box)
		}
		for i := 5; i >= 0; i-- {
			answers(t, cipher.Seal, p, row[i], "ad", "text", row[i+1], boxes[i], api.OK)
			answers(t, cipher.Open, p, row[i], "ad", boxes[i], row[i+1], "text", api.OK)
		}
	}
}

// loose: a text in bytes that are written over later.
func loose(s string) (string, []byte) {
	b := []byte(s)
	return unsafe.String(unsafe.SliceData(b), len(b)), b
}

// R6: what is handed in is neither changed nor kept, and what is answered is new memory: the key of the state, and without a key the text, too.
func TestMemory(t *testing.T) {
	for _, p := range both() {
		for _, c := range calls {
			for _, s := range []cipher.State{{Key: key(1), N: 7}, {N: 7}, {Key: key(1), N: last}, {Key: "x", N: 7}} {
				box := p.Seal(key(1), 7, "ad", "text")
				for _, text := range []string{box, "text", ""} {
					next, want, wantNo := c.does(p, s, strings.Clone("ad"), text)
					k, kb := loose(s.Key)
					ad, adb := loose("ad")
					in, inb := loose(text)
					x, got, no := c.does(p, cipher.State{Key: k, N: s.N}, ad, in)
					if string(kb) != s.Key || string(adb) != "ad" || string(inb) != text {
						t.Errorf("%s, %s: what was handed in is %q, %q, %q", p.name, c.name, kb, adb, inb)
					}
					for _, b := range [][]byte{kb, adb, inb} {
						for i := range b {
							b[i] ^= 255
						}
					}
					if x != next || got != want || no != wantNo {
						t.Errorf("%s, %s: %s, %q, %d; not %s, %q, %d", p.name, c.name, tell(x), got, no, tell(next), want, wantNo)
					}
					answers(t, c.does, p, s, "ad", text, next, want, wantNo)
				}
			}
		}
	}
}

// inWords: what Seal or Open have to answer, as the chapter says it.
func inWords(open bool, p prims.Prims, s cipher.State, ad, text string) (cipher.State, string, api.Errno) {
	if p == nil {
		return s, "", api.ErrNil
	}
	if s.Key == "" {
		return s, text, api.OK
	}
	if s.N+1 == 0 {
		return s, "", api.ErrEnd
	}
	if open {
		opened, no := p.Open(s.Key, s.N, ad, text)
		if no != api.OK {
			return s, "", no
		}
		return used(s), opened, api.OK
	}
	if box := p.Seal(s.Key, s.N, ad, text); box != "" {
		return used(s), box, api.OK
	}
	return s, "", api.ErrBig
}

// run: calls by chance, of states and texts that came ahead, against the chapter's words in prims of their own.
func run(t *testing.T, next func(n int) int, count int) {
	for i, p := range both() {
		other := both()[i]
		states := []cipher.State{{}, {Key: key(1)}, {Key: key(1)}, {Key: key(2), N: 255}, {Key: "x"}, {Key: key(1), N: last - 2}, {N: last}}
		texts := []string{"", "ad", "text", key(3), ordinary(1, p.most), ordinary(2, p.most+1)}
		for range count {
			s, ad, text := states[next(len(states))], texts[next(min(len(texts), 3))], texts[next(len(texts))]
			open, none := next(2) == 1, next(20) == 19
			var mine, its prims.Prims = p.Prims, other.Prims
			if none {
				mine, its = nil, nil
			}
			call := cipher.Seal
			if open {
				call = cipher.Open
			}
			x, got, no := call(mine, s, ad, text)
			y, want, wantNo := inWords(open, its, s, ad, text)
			if x != y || got != want || no != wantNo {
				t.Fatalf("%s, open %t, %s, ad %.40q, %.40q: %s, %.40q, %d; not %s, %.40q, %d", p.name, open, tell(s), ad, text, tell(x), got, no, tell(y), want, wantNo)
			}
			states, texts = append(states, x), append(texts, got)
		}
	}
}

func TestAsWords(t *testing.T) {
	for seed := range int64(100) {
		run(t, rand.New(rand.NewSource(seed)).Intn, 100)
	}
}

func FuzzAsWords(f *testing.F) {
	f.Add([]byte{1, 1, 2, 0, 0, 1, 1, 6, 1, 0})
	f.Add([]byte("a row of calls, by what the bytes here say"))
	f.Fuzz(func(t *testing.T, b []byte) {
		at := 0
		run(t, func(n int) int {
			if at == len(b) {
				return 0
			}
			at++
			return int(b[at-1]) % n
		}, len(b)/5)
	})
}

func BenchmarkSealAndOpen(b *testing.B) {
	for _, p := range both() {
		b.Run(p.name, func(b *testing.B) {
			s, text := cipher.State{Key: key(1)}, ordinary(1, 1000)
			for b.Loop() {
				_, box, _ := cipher.Seal(p, s, "ad", text)
				cipher.Open(p, s, "ad", box)
			}
		})
	}
}
