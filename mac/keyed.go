package mac

import (
	"iter"

	"signetring/api"
	"signetring/sha"
)

const (
	block     = 64 // bytes to which a key is filled up
	outerMask = 92 // by which a key's bytes are changed ahead of the inner digest
	innerMask = 54 // by which they are changed ahead of the bytes themselves
)

// keyed is a key as it is used: the digests of it alone, so that a key that is used often is mixed in once.
type keyed struct{ outer, inner sha.Digest }

// keyedBy: the key, as it is used.
func keyedBy(key []byte) keyed {
	full := filled(key)
	return keyed{outer: changed(full, outerMask), inner: changed(full, innerMask)}
}

// filled: a key of as many bytes as a block has.
func filled(key []byte) [block]byte {
	var full [block]byte
	if len(key) > block {
		short := sha.Sum(key)
		key = short[:]
	}
	copy(full[:], key)
	return full
}

// changed: the digest of a key each of whose bytes is changed by the same one.
func changed(full [block]byte, by byte) sha.Digest {
	for i := range full {
		full[i] ^= by
	}
	return sha.Digest{}.Write(full[:])
}

// sum: HMAC of the key and all pieces, one behind the other.
func (k keyed) sum(pieces ...[]byte) [sha.Size]byte {
	for _, b := range pieces {
		k.inner = k.inner.Write(b)
	}
	within := k.inner.Sum()
	return k.outer.Write(within[:]).Sum()
}

// expanded: so many bytes of a key, at most mostBytes.
func expanded(key [sha.Size]byte, info []byte, n int) []byte {
	k, out := keyedBy(key[:]), make([]byte, 0, n)
	var last []byte
	for number := byte(1); len(out) < n; number++ {
		t := k.sum(last, info, []byte{number})
		last = t[:]
		out = append(out, last[:min(len(last), n-len(out))]...)
	}
	return out
}

// cut: bytes as keys, one by one; what is no whole key is left.
func cut(b []byte) iter.Seq[[api.KeySize]byte] {
	return func(yield func([api.KeySize]byte) bool) {
		for at := 0; at+api.KeySize <= len(b); at += api.KeySize {
			if !yield([api.KeySize]byte(b[at:])) {
				return
			}
		}
	}
}
