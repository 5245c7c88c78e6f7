package codec

import "testing"

// fails: what a walk panics with, if it does.
func fails(step func()) (with any) {
	defer func() { with = recover() }()
	step()
	return nil
}

// P8.2: from inside, since Split tells no more than that there is no form: a walk panics just where its text is too short, and goes no further.
func TestWalk(t *testing.T) {
	for n := range 5 {
		for size := range 5 {
			w := walk{"\x00\x01\x02\x03"[:n]}
			with := fails(func() { w.bytes(size) })
			if n < size && (with != tooShort || len(w.rest) != n) {
				t.Errorf("%d of %d bytes: %v, and %d left", size, n, with, len(w.rest))
			}
			if n >= size && (with != nil || len(w.rest) != n-size) {
				t.Errorf("%d of %d bytes: %v, and %d left", size, n, with, len(w.rest))
			}
		}
	}
}

// P8.2: from inside.
func TestWalkOfTexts(t *testing.T) {
	for _, c := range []struct {
		s, text, rest string
		short         bool
	}{
		{"", "", "", true}, {"\x00", "", "", true}, {"\x00\x01", "", "", true}, {"\x01\x00a", "", "", true}, {"\xff\xff", "", "", true},
		{"\x00\x00", "", "", false}, {"\x00\x01a", "a", "", false}, {"\x00\x01ab", "a", "b", false}, {"\x00\x00a", "", "a", false},
	} {
		w := walk{c.s}
		var text string
		with := fails(func() { text = w.text() })
		if c.short != (with == tooShort) || text != c.text || !c.short && w.rest != c.rest {
			t.Errorf("%q: %q, %q, %v", c.s, text, w.rest, with)
		}
	}
}

// P8.2: from inside, apart answers nothing of a text that is too short, and never panics.
func TestApart(t *testing.T) {
	whole, _ := Join(7, "a", "", "bc")
	for n := range whole {
		if kind, l, ok := apart(whole[:n]); kind != 0 || l != nil || ok {
			t.Errorf("%d bytes: %d, %q, %t", n, kind, l, ok)
		}
	}
	if kind, l, ok := apart(whole); kind != 7 || len(l) != 3 || !ok {
		t.Errorf("%d, %q, %t", kind, l, ok)
	}
	if _, _, ok := apart(whole + "x"); ok {
		t.Error("a byte more")
	}
}

// P8.1: from inside, how many bytes there would be is told at its edge, too.
func TestSizeOf(t *testing.T) {
	for _, c := range []struct {
		l    []string
		size int
	}{{nil, 3}, {[]string{""}, 5}, {[]string{"abc", ""}, 10}, {make([]string, 255), 513}} {
		if size, ok := sizeOf(c.l); size != c.size || !ok {
			t.Errorf("%d texts: %d, %t", len(c.l), size, ok)
		}
	}
}
