package term

import (
	"strings"

	"signetring/api"
	"signetring/codec"
)

// Ahead of a name's number: this text, and bytes 0 that fill the name up to a key's size.
const head = "term"

// nameOf: the name of the term of that number.
func nameOf(n uint64) string {
	number := codec.Num(n)
	return head + strings.Repeat("\x00", api.KeySize-len(head)-len(number)) + number
}

// numberOf: that of the name; 0, which no term has, of a text that is no name.
func numberOf(name string) uint64 {
	number, ok := strings.CutPrefix(name, head)
	if !ok || len(name) != api.KeySize {
		return 0
	}
	// Without the bytes 0 it is what codec.Num answers, unless it is too long: then there is no number.
	n, no := codec.Read(strings.TrimLeft(number, "\x00"))
	if no != api.OK {
		return 0
	}
	return n
}
