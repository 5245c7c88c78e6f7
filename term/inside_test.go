package term

import (
	"math"
	"testing"

	"signetring/api"
)

// P9.1, P9.3: from inside, since no table has so many terms: names of great numbers, and back.
func TestNamesOfGreatNumbers(t *testing.T) {
	for i := range 64 {
		for more := range uint64(5) {
			n := uint64(1)<<i + more - 2
			name := nameOf(n)
			if len(name) != api.KeySize || numberOf(name) != n {
				t.Errorf("%d: %q, %d", n, name, numberOf(name))
			}
		}
	}
	if name := nameOf(0x0102030405060708); name != "term\x00\x00\x00\x00\x00\x00\x00\x00\x00\x00\x00\x00\x00\x00\x00\x00\x00\x00\x00\x00\x01\x02\x03\x04\x05\x06\x07\x08" {
		t.Errorf("%q", name)
	}
	if numberOf(nameOf(math.MaxUint64)) != math.MaxUint64 || numberOf(nameOf(0)) != 0 {
		t.Error("the greatest and the least number")
	}
}

// R5: from inside, what is refused or asked leaves nothing behind, and a term that comes again takes no room.
func TestKept(t *testing.T) {
	x := New()
	x.Pub("a")
	for range 3 {
		x.Pub("a")
		x.Dh("a", nameOf(7))
		x.Dh(string(make([]byte, 4001)), nameOf(1))
		x.Hash(make([]string, 256)...)
		x.Parts(nameOf(2))
		x.All()
		if len(x.numbers) != 1 || len(x.terms) != 1 {
			t.Fatalf("%d and %d", len(x.numbers), len(x.terms))
		}
	}
	var zero Table
	zero.Atom("a")
	if zero.numbers != nil || zero.terms != nil {
		t.Error("a table that no call made has taken a term")
	}
}
