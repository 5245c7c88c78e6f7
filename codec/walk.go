package codec

import "strings"

// tooShort is what a walk panics with.
const tooShort = "codec: a text that is too short"

// walk goes through a text from its beginning on. It panics where the text is too short, so that no step has to ask the one ahead of it.
type walk struct {
	rest string
}

// bytes: the next ones, so many.
func (w *walk) bytes(n int) string {
	if n > len(w.rest) {
		panic(tooShort)
	}
	b := w.rest[:n]
	w.rest = w.rest[n:]
	return b
}

// number: that of the next byte.
func (w *walk) number() int { return int(w.bytes(1)[0]) }

// text: the next one, behind how many bytes it has.
func (w *walk) text() string {
	high := w.number()
	low := w.number()
	// An answer is memory of its own: a piece would keep the whole text.
	return strings.Clone(w.bytes(high<<8 | low))
}

// apart: the kind and the texts of one, and whether it has the form.
func apart(s string) (kind byte, l []string, ok bool) {
	defer func() {
		if recover() != nil {
			kind, l, ok = 0, nil, false
		}
	}()
	w := walk{s}
	first := w.number()
	kind = byte(w.number())
	for range w.number() {
		l = append(l, w.text())
	}
	// What Join refuses has no form, though its bytes may be told.
	_, fits := sizeOf(l)
	return kind, l, first == form && w.rest == "" && fits
}
