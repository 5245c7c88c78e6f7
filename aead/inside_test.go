package aead

import (
	"bytes"
	"encoding/hex"
	"testing"

	"signetring/stream"
)

// P7.1: from inside, each byte of a number at its place.
func TestNonceOf(t *testing.T) {
	for n, want := range map[uint64][12]byte{
		0:                  {},
		1:                  {4: 1},
		255:                {4: 255},
		256:                {5: 1},
		1 << 32:            {8: 1},
		0x0807060504030201: {0, 0, 0, 0, 1, 2, 3, 4, 5, 6, 7, 8},
		1 << 63:            {11: 128},
		1<<64 - 1:          {0, 0, 0, 0, 255, 255, 255, 255, 255, 255, 255, 255},
	} {
		if got := nonceOf(n); got != want {
			t.Errorf("%d: %x, not %x", n, got, want)
		}
	}
}

// P7.1: from inside, what the tag is made of, at the edges of pieces.
func TestLaid(t *testing.T) {
	for _, c := range []struct{ ad, c, want string }{
		{"", "", "00000000000000000000000000000000"},
		{"61", "", "61000000000000000000000000000000" + "01000000000000000000000000000000"},
		{"", "61", "61000000000000000000000000000000" + "00000000000000000100000000000000"},
		{
			"0102030405060708090a0b0c0d0e0f", "101112131415161718191a1b1c1d1e1f",
			"0102030405060708090a0b0c0d0e0f00" + "101112131415161718191a1b1c1d1e1f" + "0f000000000000001000000000000000",
		},
		{
			"0102030405060708090a0b0c0d0e0f1011", "61",
			"0102030405060708090a0b0c0d0e0f10" + "11000000000000000000000000000000" + "61000000000000000000000000000000" + "11000000000000000100000000000000",
		},
	} {
		ad, _ := hex.DecodeString(c.ad)
		text, _ := hex.DecodeString(c.c)
		if got := hex.EncodeToString(laid(ad, text)); got != c.want {
			t.Errorf("%s and %s: %s, not %s", c.ad, c.c, got, c.want)
		}
	}
}

// P7.1: from inside, lengths of more than one byte.
func TestLaidLengths(t *testing.T) {
	got := laid(make([]byte, 60000), bytes.Repeat([]byte{7}, 258))
	want := append(make([]byte, 60000), bytes.Repeat([]byte{7}, 258)...)
	want = append(want, make([]byte, 14)...)
	want = append(want, 0x60, 0xea, 0, 0, 0, 0, 0, 0, 2, 1, 0, 0, 0, 0, 0, 0)
	if !bytes.Equal(got, want) {
		t.Errorf("%d bytes that end with %x", len(got), got[len(got)-16:])
	}
}

// P7.1: from inside, since the nonce of RFC 8439, 2.8.2, is one that no number has.
func TestKnownMark(t *testing.T) {
	var key [32]byte
	for i := range key {
		key[i] = byte(0x80 + i)
	}
	nonce := [12]byte{7, 0, 0, 0, 0x40, 0x41, 0x42, 0x43, 0x44, 0x45, 0x46, 0x47}
	ad, _ := hex.DecodeString("50515253c0c1c2c3c4c5c6c7")
	text := "Ladies and Gentlemen of the class of '99: If I could offer you only one tip for the future, sunscreen would be it."
	c, _ := stream.Xor(key, nonce, textCount, []byte(text))
	if got := markOf(key, nonce, ad, c); hex.EncodeToString(got[:]) != "1ae10b594f09e26a7e902ecbd0600691" {
		t.Errorf("%x", got)
	}
}
