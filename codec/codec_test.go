package codec_test

import (
	"bytes"
	"encoding/binary"
	"math"
	"math/rand"
	"slices"
	"strings"
	"testing"
	"unsafe"

	"signetring/api"
	"signetring/codec"
)

const (
	most  = 30000 // bytes of texts as one
	texts = 255   // of texts, at most
	large = 4000  // bytes of a text
)

// ordinary: bytes of no special kind, the same ones at each run.
func ordinary(seed int64, n int) string {
	r := rand.New(rand.NewSource(seed))
	b := make([]byte, n)
	for i := range b {
		b[i] = byte(r.Intn(256))
	}
	return string(b)
}

// each: texts of these sizes.
func each(sizes ...int) []string {
	l := make([]string, len(sizes))
	for i, n := range sizes {
		l[i] = ordinary(int64(i)+1, n)
	}
	return l
}

// alike: so many texts of one size.
func alike(n, size int) []string { return slices.Repeat(each(size), n) }

// piece: a text with how many bytes it has ahead of it.
func piece(s string) string {
	return string(binary.BigEndian.AppendUint16(nil, uint16(len(s)))) + s
}

// laid: texts as one, as the document's words tell it; nothing is too much.
func laid(kind byte, l []string) string {
	parts := []string{string([]byte{1, kind, byte(len(l))})}
	for _, s := range l {
		parts = append(parts, piece(s))
	}
	return strings.Join(parts, "")
}

// allowed: may these be joined?
func allowed(l []string) bool {
	long := func(s string) bool { return len(s) > large }
	return len(l) <= texts && !slices.ContainsFunc(l, long) && len(laid(0, l)) <= most
}

// told: the kind and the texts of one, told by looking at no more than the places of the form; false if there are none.
func told(s string) (byte, []string, bool) {
	if len(s) < 3 || s[0] != 1 {
		return 0, nil, false
	}
	var l []string
	at := 3
	for range s[2] {
		if at+2 > len(s) {
			return 0, nil, false
		}
		end := at + 2 + int(s[at])*256 + int(s[at+1])
		if end > len(s) {
			return 0, nil, false
		}
		l, at = append(l, s[at+2:end]), end
	}
	return s[1], l, at == len(s) && allowed(l)
}

// joined: these as one; there is no error, and it is as the words tell.
func joined(t *testing.T, kind byte, l []string) string {
	t.Helper()
	s, e := codec.Join(kind, l...)
	if e != api.OK || s != laid(kind, l) {
		t.Fatalf("Join of %d texts of kind %d: %d bytes, %d", len(l), kind, len(s), e)
	}
	return s
}

// isBig: these are not joined, and nothing is beside the error (R3).
func isBig(t *testing.T, what string, kind byte, l []string) {
	t.Helper()
	if s, e := codec.Join(kind, l...); e != api.ErrBig || s != "" {
		t.Errorf("%s: Join of %d texts: %d bytes, %d", what, len(l), len(s), e)
	}
}

// splits: s is of that kind and of these texts; so Take has it, too.
func splits(t *testing.T, s string, kind byte, l []string) {
	t.Helper()
	if k, m, e := codec.Split(s); e != api.OK || k != kind || !slices.Equal(m, l) {
		t.Errorf("Split of %d bytes: kind %d, %d texts, %d; not %d, %d", len(s), k, len(m), e, kind, len(l))
	}
	if m, e := codec.Take(s, kind, len(l)); e != api.OK || !slices.Equal(m, l) {
		t.Errorf("Take of %d bytes: %d texts, %d; not %d", len(s), len(m), e, len(l))
	}
}

// noForm: s is not split, and nothing is beside the error (R3); nor is it taken, be it of whatever kind.
func noForm(t *testing.T, what, s string) {
	t.Helper()
	if k, l, e := codec.Split(s); e != api.ErrForm || k != 0 || len(l) != 0 {
		t.Errorf("%s: Split(%d bytes, %.20q): kind %d, %d texts, %d", what, len(s), s, k, len(l), e)
	}
	kinds, counts := []byte{0, 255}, []int{-1, 0, 1}
	if len(s) > 2 {
		kinds, counts = append(kinds, s[1]), append(counts, int(s[2]))
	}
	for _, k := range kinds {
		for _, n := range counts {
			notTaken(t, what, s, k, n)
		}
	}
}

// notTaken: s is not taken of that kind and with so many texts.
func notTaken(t *testing.T, what, s string, kind byte, n int) {
	t.Helper()
	if l, e := codec.Take(s, kind, n); e != api.ErrForm || len(l) != 0 {
		t.Errorf("%s: Take(%d bytes, %.20q, %d, %d): %d texts, %d", what, len(s), s, kind, n, len(l), e)
	}
}

// asWords: s is split just if it is what Join answers, as far as the words tell it.
func asWords(t *testing.T, s string) {
	t.Helper()
	if kind, l, ok := told(s); ok {
		splits(t, s, kind, l)
	} else {
		noForm(t, "no form", s)
	}
}

// sizes: of a text, at the edges of a byte and of what may be.
var sizes = []int{0, 1, 2, 3, 254, 255, 256, 257, 511, 512, 513, 3839, 3840, 3841, 3999, 4000}

// some: texts that may be joined, of each kind.
func some() [][]string {
	out := [][]string{nil, {}, {""}, {"", ""}, {"a"}, {"a", ""}, {"", "a"}, {"a", "", "bc"}, {"\x00"}, {"\x00\x00"}, {"\x01\x00\x00"}, {"\x01\x00\x01\x00\x00"}, {"\xff", "\xff\xff"}, {"\u00e4\u20ac", "\xc3"}}
	for _, n := range sizes {
		out = append(out, each(n), each(n, 0), each(0, n), each(1, n, 2), each(n, n))
	}
	for _, n := range []int{3, 4, 16, 127, 128, 129, 254, 255} {
		out = append(out, make([]string, n), alike(n, 1), alike(n, 115))
	}
	return append(out, each(counted(90)...), full(most-1), full(most))
}

// counted: the sizes from 0 on.
func counted(n int) []int {
	l := make([]int, n)
	for i := range l {
		l[i] = i
	}
	return l
}

// full: texts that have so many bytes as one, the last one of less than 4000.
func full(size int) []string {
	l := alike((size-3)/(large+2), large)
	return append(l, ordinary(99, (size-3)%(large+2)-2))
}

// P8.1, P8.2: the chapter's example.
func TestExample(t *testing.T) {
	s, e := codec.Join(7, "a", "")
	if s != "\x01\x07\x02\x00\x01\x61\x00\x00" || e != api.OK {
		t.Errorf("%q, %d", s, e)
	}
	splits(t, s, 7, []string{"a", ""})
	if s := codec.Num(258); s != "\x01\x02" {
		t.Errorf("%q", s)
	}
	if n, e := codec.Read("\x01\x02"); n != 258 || e != api.OK {
		t.Errorf("%d, %d", n, e)
	}
}

// P8.1: byte by byte, where how many bytes a text has needs one byte, and two.
func TestJoinOfBytes(t *testing.T) {
	long := strings.Repeat("x", 4000)
	for _, c := range []struct {
		kind byte
		l    []string
		want string
	}{
		{0, nil, "\x01\x00\x00"},
		{255, nil, "\x01\xff\x00"},
		{1, []string{""}, "\x01\x01\x01\x00\x00"},
		{2, []string{"\x00"}, "\x01\x02\x01\x00\x01\x00"},
		{3, []string{long[:255]}, "\x01\x03\x01\x00\xff" + long[:255]},
		{4, []string{long[:256]}, "\x01\x04\x01\x01\x00" + long[:256]},
		{5, []string{long}, "\x01\x05\x01\x0f\xa0" + long},
		{6, []string{"b", "a", "b"}, "\x01\x06\x03\x00\x01b\x00\x01a\x00\x01b"},
		{7, make([]string, 255), "\x01\x07\xff" + strings.Repeat("\x00\x00", 255)},
	} {
		if s, e := codec.Join(c.kind, c.l...); s != c.want || e != api.OK {
			t.Errorf("Join of kind %d: %.20q, %d", c.kind, s, e)
		}
		splits(t, c.want, c.kind, c.l)
	}
}

// P8.1, P8.2, P8.4
func TestJoinedIsSplit(t *testing.T) {
	for i, l := range some() {
		for _, kind := range []byte{0, 1, 7, 127, 128, 255, byte(i)} {
			splits(t, joined(t, kind, l), kind, l)
		}
	}
}

// P8.1, P8.2: each kind.
func TestEachKind(t *testing.T) {
	for kind := range 256 {
		for _, l := range [][]string{nil, {""}, {"a", "", "bc"}} {
			splits(t, joined(t, byte(kind), l), byte(kind), l)
		}
	}
}

// P8.1, P8.2: each count that one byte tells, and the ones behind it, of which some have a byte as a lesser one has it.
func TestEachCount(t *testing.T) {
	for n := range texts + 1 {
		splits(t, joined(t, 9, make([]string, n)), 9, make([]string, n))
		splits(t, joined(t, 9, alike(n, 2)), 9, alike(n, 2))
	}
	for _, n := range []int{256, 257, 258, 511, 512, 513, 1000, 65535, 65536, 65537, 1 << 20} {
		isBig(t, "too many empty texts", 9, make([]string, n))
		isBig(t, "too many texts", 9, alike(n, 1))
	}
}

// P8.1, P8.2: each size that a text may have, and the ones behind it, of which some have bytes as a lesser one has them.
func TestEachSize(t *testing.T) {
	all := ordinary(1, 1<<20)
	for n := range large + 1 {
		splits(t, joined(t, 10, []string{all[:n]}), 10, []string{all[:n]})
	}
	for _, n := range []int{4001, 4002, 4096, 29995, 29996, 30000, 30001, 65535, 65536, 65537, 65546, 1 << 20} {
		for _, l := range [][]string{{all[:n]}, {"", all[:n]}, {all[:n], ""}, {"a", all[:n], "b"}, {all[:n], all[:n]}} {
			isBig(t, "too long a text", 10, l)
		}
	}
}

// P8.1: of all as one, as much as may be, and more.
func TestJoinOfMuch(t *testing.T) {
	for size := most - 20; size <= most; size++ {
		l := full(size)
		s := joined(t, 11, l)
		if len(s) != size {
			t.Fatalf("%d bytes, not %d", len(s), size)
		}
		splits(t, s, 11, l)
	}
	for _, size := range []int{most + 1, most + 2, most + 3, most + 20, 32767, 32768, 65535, 65536, 65537, 1 << 18} {
		isBig(t, "too much", 11, full(size))
	}
	// 3 + 254 * (2 + 115) + 2 + 277
	l := append(alike(254, 115), ordinary(2, 277))
	if s := joined(t, 11, l); len(s) != most {
		t.Fatalf("%d bytes", len(s))
	}
	splits(t, joined(t, 11, l), 11, l)
	isBig(t, "a byte more in the last of many", 11, append(alike(254, 115), ordinary(2, 278)))
	isBig(t, "a byte more in the first of many", 11, append([]string{ordinary(2, 278)}, alike(254, 115)...))
	isBig(t, "an empty text more", 11, append(full(most), ""))
	isBig(t, "an empty text more, and one byte too much", 11, append(full(most-1), ""))
	splits(t, joined(t, 11, append(full(most-2), "")), 11, append(full(most-2), ""))
	isBig(t, "the most of each", 11, alike(texts, large))
}

// P8.1, R3: more than one thing is too much.
func TestJoinOfTooMuchOfAll(t *testing.T) {
	for _, l := range [][]string{
		alike(256, 4001), alike(256, 4000), alike(255, 4001), alike(256, 115), alike(8, 4001), append(make([]string, 255), ordinary(3, 4001)),
	} {
		isBig(t, "too much of more than one", 255, l)
	}
}

// P8.2: all that Join answers of few bytes of four kinds are found by joining; of all texts of these bytes, no other one is split.
func TestAllSmallTexts(t *testing.T) {
	const size = 8
	type parts struct {
		kind byte
		l    []string
	}
	var all []string
	for n := range size + 1 {
		all = append(all, small(n)...)
	}
	made := map[string]parts{}
	var join func(l []string, left int)
	join = func(l []string, left int) {
		for kind := range 4 {
			made[joined(t, byte(kind), l)] = parts{byte(kind), slices.Clone(l)}
		}
		for _, s := range all {
			if len(s)+2 <= left {
				join(append(l, s), left-len(s)-2)
			}
		}
	}
	join(nil, size-3)
	for _, s := range all {
		if p, ok := made[s]; ok {
			splits(t, s, p.kind, p.l)
		} else if k, l, e := codec.Split(s); e != api.ErrForm || k != 0 || len(l) != 0 {
			t.Errorf("Split(%q): kind %d, %q, %d", s, k, l, e)
		}
	}
}

// small: all texts of so many bytes of 0 to 3.
func small(n int) []string {
	if n == 0 {
		return []string{""}
	}
	var out []string
	for _, s := range small(n - 1) {
		for b := range 4 {
			out = append(out, s+string([]byte{byte(b)}))
		}
	}
	return out
}

// P8.2: cut off anywhere, at either end.
func TestSplitOfLess(t *testing.T) {
	noForm(t, "no bytes", "")
	for _, l := range [][]string{nil, {""}, {"a", "", "bc"}, each(255, 256), make([]string, 255), each(0, 300, 0)} {
		s := joined(t, 12, l)
		for i := range s {
			noForm(t, "cut off at its end", s[:i])
			// Its end may have the form by chance, as its texts may be such ones.
			if i > 0 {
				asWords(t, s[i:])
			}
		}
	}
	for _, l := range some() {
		s := joined(t, 1, l)
		noForm(t, "a byte fewer at its end", s[:len(s)-1])
		asWords(t, s[1:])
	}
}

// P8.2: with a byte more, of any value, at either end or in between.
func TestSplitOfMore(t *testing.T) {
	for _, l := range some() {
		s := joined(t, 13, l)
		for _, b := range []string{"\x00", "\x01", "\x0d", "a", "\xff", "\x00\x00", "\x00\x01", "\x01\x0d\x00"} {
			noForm(t, "more at its end", s+b)
			asWords(t, b+s)
		}
	}
	for _, l := range [][]string{nil, {""}, {"a"}, {"a", "", "bc"}} {
		s := joined(t, 13, l)
		noForm(t, "twice", s+s)
		for b := range 256 {
			more := string([]byte{byte(b)})
			noForm(t, "a byte more at its end", s+more)
			if b != 1 {
				noForm(t, "a byte ahead", more+s)
			}
			for at := range s {
				asWords(t, s[:at]+more+s[at:])
			}
		}
		// 01 0d as kind and count: thirteen texts are not there.
		noForm(t, "the form once more ahead", "\x01"+s)
	}
}

// P8.2: another first byte.
func TestSplitOfOtherForm(t *testing.T) {
	for _, l := range [][]string{nil, {""}, {"a", "", "bc"}, full(most)} {
		s := joined(t, 14, l)
		for b := range 256 {
			if b != 1 {
				noForm(t, "another first byte", string([]byte{byte(b)})+s[1:])
			}
		}
	}
}

// P8.2: another count.
func TestSplitOfOtherCount(t *testing.T) {
	for _, l := range some() {
		s := joined(t, 15, l)
		for n := range 256 {
			if n != len(l) {
				noForm(t, "another count", s[:2]+string([]byte{byte(n)})+s[3:])
			}
		}
	}
}

// P8.2: another length of one of the texts; what is right then, is told in another way.
func TestSplitOfOtherLength(t *testing.T) {
	for _, l := range [][]string{{""}, {"a"}, {"", ""}, {"a", "", "bc"}, {"\x00\x00\x00", "\x00\x00"}, each(255), each(256, 257), each(4000), make([]string, 20)} {
		for i := range l {
			at := len(laid(0, l[:i]))
			s := joined(t, 16, l)
			for n := range 65536 {
				if n < 600 || n%97 == 0 || n > 65000 || n > 3900 && n < 4200 {
					asWords(t, s[:at]+string([]byte{byte(n >> 8), byte(n)})+s[at+2:])
				}
			}
		}
	}
}

// P8.2: what has a text too long has no form, though all its bytes are there.
func TestSplitOfTooLongTexts(t *testing.T) {
	for _, n := range []int{4001, 4002, 4095, 4096, 8000, 16384, 29994, 29995, 29996, 32768, 65535} {
		for _, l := range [][]string{each(n), each(n, 0), each(0, n), each(1, n, 1)} {
			noForm(t, "too long a text", laid(17, l))
		}
		noForm(t, "a text that is too long, and not there", "\x01\x11\x01"+piece(ordinary(4, n))[:2])
	}
	splits(t, laid(17, each(4000)), 17, each(4000))
}

// P8.2: what has too many bytes has no form, though each of its texts is small.
func TestSplitOfTooMuch(t *testing.T) {
	for size := most - 5; size <= most+5; size++ {
		s := laid(18, full(size))
		if len(s) != size {
			t.Fatalf("%d bytes, not %d", len(s), size)
		}
		if size <= most {
			splits(t, s, 18, full(size))
		} else {
			noForm(t, "too much", s)
		}
	}
	noForm(t, "many small ones", laid(18, append(alike(254, 115), ordinary(2, 278))))
	splits(t, laid(18, append(alike(254, 115), ordinary(2, 277))), 18, append(alike(254, 115), ordinary(2, 277)))
	noForm(t, "an empty text more", laid(18, append(full(most), "")))
	noForm(t, "the most of each", laid(18, alike(texts, large)))
	noForm(t, "too many, so that they are told as one", laid(18, alike(257, 1)))
	noForm(t, "too many, so that they are told as none", laid(18, make([]string, 256)))
	for _, b := range []string{"\x00", "\x01", "\xff"} {
		noForm(t, "one byte, often", strings.Repeat(b, 1<<20))
	}
}

// P8.2: Take of another kind, with more texts and with fewer, or below 0.
func TestTake(t *testing.T) {
	for _, l := range some() {
		s := joined(t, 19, l)
		splits(t, s, 19, l)
		for _, kind := range []byte{0, 1, 18, 20, 19 + 128, 255} {
			notTaken(t, "another kind", s, kind, len(l))
			notTaken(t, "another kind, and none", s, kind, 0)
		}
		for n := -3; n < 260; n++ {
			if n != len(l) {
				notTaken(t, "another count", s, 19, n)
			}
		}
		for _, n := range []int{len(l) + 1, len(l) - 1, -len(l) - 1, len(l) + 256, len(l) - 256, len(l) + 65536, len(l) + 1<<32, len(l) - 1<<32, math.MaxInt, math.MinInt, math.MinInt + len(l)} {
			notTaken(t, "another count", s, 19, n)
		}
	}
}

// P8.2: Take of each kind, from each kind.
func TestTakeOfEachKind(t *testing.T) {
	for is := range 256 {
		s := joined(t, byte(is), []string{"a"})
		for kind := range 256 {
			if l, e := codec.Take(s, byte(kind), 1); is == kind && (e != api.OK || !slices.Equal(l, []string{"a"})) {
				t.Errorf("kind %d: %q, %d", kind, l, e)
			} else if is != kind && (e != api.ErrForm || len(l) != 0) {
				t.Errorf("kind %d of %d: %q, %d", kind, is, l, e)
			}
		}
	}
}

// P8.2, R8: of no texts there is no list, or an empty one; none was handed in, or an empty one.
func TestNoTexts(t *testing.T) {
	one, e := codec.Join(20)
	two, f := codec.Join(20, []string{}...)
	if one != "\x01\x14\x00" || two != one || e != api.OK || f != api.OK {
		t.Errorf("%q, %d; %q, %d", one, e, two, f)
	}
	splits(t, one, 20, nil)
	notTaken(t, "one of none", one, 20, 1)
	notTaken(t, "fewer than none", one, 20, -1)
}

// P8.4: what is joined of other texts, or of another kind, is another text, though all that it has is the same, one behind the other.
func TestOneForm(t *testing.T) {
	seen := map[string]int{}
	lists := [][]string{nil, {""}, {"", ""}, {"abc"}, {"a", "bc"}, {"ab", "c"}, {"a", "b", "c"}, {"abc", ""}, {"", "abc"}, {"a", "", "bc"}, {"\x00\x00"}, {"\x00", "\x00"}, {"\x00"}, {"\x00\x01a"}, {"", "a"}, {"c", "b", "a"}, {"bc", "a"}}
	for i, l := range lists {
		for kind := range 256 {
			s := joined(t, byte(kind), l)
			if was, ok := seen[s]; ok {
				t.Errorf("%d and %d: one text", was, i*256+kind)
			}
			seen[s] = i*256 + kind
		}
	}
}

// P8.4: texts of texts are texts, and those of them again, as long as one is not too long.
func TestOneInTheOther(t *testing.T) {
	s := ""
	for len(s) <= large {
		all := joined(t, 1, []string{s})
		splits(t, all, 1, []string{s})
		s = all
	}
	isBig(t, "one too often in the other", 1, []string{s})
}

// P8.4: bytes as chance has them; what is split is joined to the same.
func TestSplitIsJoined(t *testing.T) {
	r := rand.New(rand.NewSource(5))
	right := 0
	for range 200000 {
		b := []byte{1, byte(r.Intn(256)), byte(r.Intn(3))}
		for range r.Intn(12) {
			b = append(b, byte(r.Intn(3)))
		}
		k, l, e := codec.Split(string(b))
		if _, _, ok := told(string(b)); ok != (e == api.OK) {
			t.Errorf("Split(%q): %d", b, e)
		}
		if e == api.OK {
			right++
			if s, e := codec.Join(k, l...); s != string(b) || e != api.OK {
				t.Errorf("Split and Join of %q: %q, %d", b, s, e)
			}
		}
	}
	if right < 1000 {
		t.Errorf("only %d were split", right)
	}
}

// shares: does one text lie in the memory of the other?
func shares(a, b string) bool {
	if a == "" || b == "" {
		return false
	}
	from, other := uintptr(unsafe.Pointer(unsafe.StringData(a))), uintptr(unsafe.Pointer(unsafe.StringData(b)))
	return from < other+uintptr(len(b)) && other < from+uintptr(len(a))
}

// R6: what is handed in stays, also with an error, and what lies behind its end.
func TestArgumentsStay(t *testing.T) {
	for _, l := range append(some(), alike(256, 1), each(4001), full(most+1)) {
		room := append(slices.Clone(l), "behind", "it")
		was := slices.Clone(room)
		one, e := codec.Join(21, room[:len(l)]...)
		two, f := codec.Join(21, slices.Clip(slices.Clone(l))...)
		if one != two || e != f || !slices.Equal(room, was) {
			t.Errorf("Join of %d texts: %d, %d", len(l), e, f)
		}
		copied := strings.Clone(one)
		clear(room)
		if one != copied {
			t.Errorf("%d texts were written over, and an answer has changed", len(l))
		}
		codec.Split(one)
		codec.Take(one, 21, len(l))
		if one != copied {
			t.Errorf("Split or Take of %d bytes has changed them", len(one))
		}
	}
}

// R6: a text of its own is all that is answered, and each list, too.
func TestAnswersAreNew(t *testing.T) {
	for _, l := range some() {
		s := joined(t, 22, l)
		for _, x := range l {
			if shares(x, s) {
				t.Fatalf("Join of %d texts: its answer lies in one", len(l))
			}
		}
		_, one, _ := codec.Split(s)
		_, two, _ := codec.Split(s)
		three, _ := codec.Take(s, 22, len(l))
		four, _ := codec.Take(s, 22, len(l))
		for _, m := range [][]string{one, two, three, four} {
			for _, x := range m {
				// A text of one byte may be the program's own.
				if len(x) > 1 && shares(x, s) {
					t.Fatalf("of %d texts one lies in what was handed in", len(l))
				}
			}
		}
		for _, m := range [][]string{one, three} {
			m = m[:cap(m)]
			for i := range m {
				m[i] = "written over"
			}
		}
		if !slices.Equal(two, l) || !slices.Equal(four, l) {
			t.Errorf("a list of %d texts was written over, and another one has changed", len(l))
		}
		splits(t, s, 22, l)
	}
}

// R6: a text that is made of bytes that are written over later.
func TestWrittenOver(t *testing.T) {
	for _, l := range some() {
		b := []byte(joined(t, 23, l))
		s := unsafe.String(unsafe.SliceData(b), len(b))
		_, one, e := codec.Split(s)
		two, f := codec.Take(s, 23, len(l))
		for i := range b {
			b[i] ^= 255
		}
		if e != api.OK || f != api.OK || !slices.Equal(one, l) || !slices.Equal(two, l) {
			t.Errorf("%d texts: they have changed, %d, %d", len(l), e, f)
		}
	}
}

// R4: calls ahead of a call say nothing, not even if they were refused.
func TestAnyOrder(t *testing.T) {
	l := []string{"a", "", "bc"}
	s := joined(t, 24, l)
	for _, m := range append(some(), alike(256, 1), each(4001), full(most+1)) {
		codec.Join(24, m...)
		codec.Split(laid(24, m))
		codec.Split(s[:len(s)-1])
		codec.Take(s, 25, len(m))
		codec.Read(codec.Num(uint64(len(m))) + "\x00")
		if joined(t, 24, l) != s {
			t.Fatalf("behind %d texts", len(m))
		}
		splits(t, s, 24, l)
		isNum(t, 258)
	}
}

// bytesOf: a number's bytes, as the words tell them.
func bytesOf(n uint64) string {
	return string(bytes.TrimLeft(binary.BigEndian.AppendUint64(nil, n), "\x00"))
}

// isNum: a number is written as the words tell, and read again.
func isNum(t *testing.T, n uint64) {
	t.Helper()
	want := bytesOf(n)
	if s := codec.Num(n); s != want {
		t.Errorf("Num(%d) = %q, not %q", n, s, want)
	}
	if m, e := codec.Read(want); m != n || e != api.OK {
		t.Errorf("Read(%q) = %d, %d, not %d", want, m, e, n)
	}
}

// noNum: no number is read, and nothing is beside the error (R3).
func noNum(t *testing.T, s string) {
	t.Helper()
	if n, e := codec.Read(s); n != 0 || e != api.ErrForm {
		t.Errorf("Read(%.20q, %d bytes) = %d, %d", s, len(s), n, e)
	}
}

// P8.3: byte by byte.
func TestNum(t *testing.T) {
	for n, want := range map[uint64]string{
		0: "", 1: "\x01", 2: "\x02", 127: "\x7f", 128: "\x80", 255: "\xff", 256: "\x01\x00", 257: "\x01\x01", 258: "\x01\x02", 65280: "\xff\x00",
		65535: "\xff\xff", 65536: "\x01\x00\x00", 1<<32 - 1: "\xff\xff\xff\xff", 1 << 32: "\x01\x00\x00\x00\x00", 1 << 63: "\x80\x00\x00\x00\x00\x00\x00\x00",
		1<<56 - 1: "\xff\xff\xff\xff\xff\xff\xff", 1 << 56: "\x01\x00\x00\x00\x00\x00\x00\x00", math.MaxUint64: "\xff\xff\xff\xff\xff\xff\xff\xff", 0x0102030405060708: "\x01\x02\x03\x04\x05\x06\x07\x08",
	} {
		if s := codec.Num(n); s != want {
			t.Errorf("Num(%d) = %q, not %q", n, s, want)
		}
		isNum(t, n)
	}
}

// P8.3, P8.4: all small numbers, those beside each power of 2, and ordinary ones.
func TestNumbers(t *testing.T) {
	for n := range uint64(70000) {
		isNum(t, n)
	}
	for i := range 64 {
		for more := range uint64(5) {
			isNum(t, 1<<i+more-2)
			isNum(t, math.MaxUint64<<i+more-2)
		}
	}
	r := rand.New(rand.NewSource(6))
	for range 10000 {
		isNum(t, r.Uint64()>>r.Intn(64))
	}
}

// P8.3, P8.4: all texts of at most two bytes, and each of them behind a byte 0.
func TestReadOfAllSmall(t *testing.T) {
	seen := map[uint64]string{}
	read := func(s string) {
		if s != "" && s[0] == 0 {
			noNum(t, s)
			return
		}
		n, e := codec.Read(s)
		if was, ok := seen[n]; ok || e != api.OK || codec.Num(n) != s {
			t.Errorf("Read(%q) = %d, %d, as of %q", s, n, e, was)
		}
		seen[n] = s
	}
	read("")
	for a := range 256 {
		read(string([]byte{byte(a)}))
		for b := range 256 {
			read(string([]byte{byte(a), byte(b)}))
		}
	}
	if len(seen) != 65536 {
		t.Errorf("%d numbers", len(seen))
	}
}

// P8.3: bytes 0 ahead, and texts of each length.
func TestReadOfOther(t *testing.T) {
	for n := 1; n < 12; n++ {
		noNum(t, strings.Repeat("\x00", n))
		for _, m := range []uint64{1, 255, 256, 65535, 65536, 1<<48 + 1, 1<<56 - 1, math.MaxUint64} {
			noNum(t, strings.Repeat("\x00", n)+bytesOf(m))
		}
	}
	for _, b := range []string{"\x01", "\x7f", "\x80", "\xff"} {
		for n := range 9 {
			want := uint64(0)
			for range n {
				want = want*256 + uint64(b[0])
			}
			if m, e := codec.Read(strings.Repeat(b, n)); m != want || e != api.OK {
				t.Errorf("Read of %d bytes %q: %d, %d, not %d", n, b, m, e, want)
			}
		}
		for _, n := range []int{9, 10, 15, 16, 17, 255, 256, 257, 264, 4000, 65536, 65540, 1 << 20} {
			noNum(t, strings.Repeat(b, n))
			noNum(t, b+strings.Repeat("\x00", n-1))
			noNum(t, strings.Repeat("\x00", n-1)+b)
		}
		isNum(t, uint64(b[0])<<56)
	}
}

func FuzzAsWords(f *testing.F) {
	f.Add("", byte(0), 0, uint64(0))
	f.Add("\x01\x07\x02\x00\x01a\x00\x00", byte(7), 2, uint64(258))
	f.Add("\x01\x00\x01\xff\xff", byte(0), 1, uint64(math.MaxUint64))
	f.Add(laid(9, full(most+1)), byte(9), 8, uint64(1<<32))
	f.Fuzz(func(t *testing.T, s string, kind byte, n int, number uint64) {
		asWords(t, s)
		if k, l, ok := told(s); !ok || k != kind || len(l) != n {
			notTaken(t, "as it may be", s, kind, n)
		}
		for _, l := range [][]string{{s}, {s, s}, strings.Split(s, "\x00"), slices.Repeat([]string{s}, n&511)} {
			if !allowed(l) {
				isBig(t, "as it may be", kind, l)
				continue
			}
			splits(t, joined(t, kind, l), kind, l)
		}
		isNum(t, number)
		if m, e := codec.Read(s); e == api.OK && codec.Num(m) != s {
			t.Errorf("Read(%q) = %d", s, m)
		} else if e != api.OK {
			noNum(t, s)
		}
	})
}

func BenchmarkJoin(b *testing.B) {
	l := full(most)
	b.SetBytes(most)
	for b.Loop() {
		codec.Join(1, l...)
	}
}

func BenchmarkSplit(b *testing.B) {
	s := laid(1, full(most))
	b.SetBytes(most)
	for b.Loop() {
		codec.Split(s)
	}
}

func BenchmarkSplitOfTooShort(b *testing.B) {
	s := laid(1, full(most))
	b.SetBytes(most)
	for b.Loop() {
		codec.Split(s[:most-1])
	}
}
