package aead

import (
	"signetring/api"
	"signetring/stream"
	"signetring/tag"
)

const (
	nonceSize = 12 // bytes of a nonce
	countSize = 8  // and of a number, in a nonce or behind what is tagged
	piece     = 16 // up to a multiple of it ad and c are filled up
	tagCount  = 0  // of the block that begins with the tag's key
)

// nonceOf: the nonce of a number.
func nonceOf(n uint64) [nonceSize]byte {
	var nonce [nonceSize]byte
	written := bytesOf(n)
	copy(nonce[nonceSize-countSize:], written[:])
	return nonce
}

// bytesOf: a number's bytes, the lowest one first.
func bytesOf(n uint64) [countSize]byte {
	var out [countSize]byte
	for i := range out {
		out[i] = byte(n >> (8 * i))
	}
	return out
}

// markOf: the tag of ad and c. Its key is of the nonce, too, since it may be used once alone.
func markOf(key [32]byte, nonce [nonceSize]byte, ad, c []byte) [tag.Size]byte {
	block := stream.Block(key, nonce, tagCount)
	return tag.Sum([api.KeySize]byte(block[:api.KeySize]), laid(ad, c))
}

// laid: what the tag is made of. With the lengths at its end no other ad and c are laid alike.
func laid(ad, c []byte) []byte {
	out := make([]byte, 0, filledSize(len(ad))+filledSize(len(c))+2*countSize)
	out = filled(append(out, ad...))
	out = filled(append(out, c...))
	for _, part := range [2][]byte{ad, c} {
		length := bytesOf(uint64(len(part)))
		out = append(out, length[:]...)
	}
	return out
}

// filled: bytes, and bytes 0 behind them, to whole pieces.
func filled(b []byte) []byte {
	return append(b, make([]byte, filledSize(len(b))-len(b))...)
}

// filledSize: how many bytes so many are when they are filled up.
func filledSize(n int) int { return (n + piece - 1) / piece * piece }
