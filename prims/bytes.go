package prims

import (
	"signetring/aead"
	"signetring/api"
	"signetring/ladder"
	"signetring/mac"
	"signetring/sha"
)

// ofBytes is prims of bytes: they keep nothing.
type ofBytes struct{}

// keyOf: a text's bytes as a key; is it one?
func keyOf(s string) ([api.KeySize]byte, bool) {
	if len(s) != api.KeySize {
		return [api.KeySize]byte{}, false
	}
	return [api.KeySize]byte([]byte(s)), true
}

// Pub: a secret's public key.
func (ofBytes) Pub(secret string) string {
	k, ok := keyOf(secret)
	if !ok {
		return ""
	}
	pub := ladder.Pub(k)
	return string(pub[:])
}

// Dh: what a secret and a public key come to.
func (ofBytes) Dh(secret, pub string) (string, bool) {
	mine, is := keyOf(secret)
	theirs, too := keyOf(pub)
	if !is || !too {
		return "", false
	}
	shared, ok := ladder.Shared(mine, theirs)
	if !ok {
		return "", false
	}
	return string(shared[:]), true
}

// Hash: the digest of two texts, one behind the other.
func (ofBytes) Hash(a, b string) string {
	digest := sha.Sum([]byte(a + b))
	return string(digest[:])
}

// Keys: so many keys of a key and a text.
func (ofBytes) Keys(key, b string, n int) []string {
	k, ok := keyOf(key)
	if !ok {
		return nil
	}
	keys, no := mac.Keys(k, []byte(b), n)
	if no != api.OK {
		return nil
	}
	l := make([]string, len(keys))
	for i, key := range keys {
		l[i] = string(key[:])
	}
	return l
}

// Seal: a text as a box.
func (ofBytes) Seal(key string, n uint64, ad, text string) string {
	k, ok := keyOf(key)
	if !ok {
		return ""
	}
	// Beside an error there is no box: "" then.
	box, _ := aead.Seal(k, n, []byte(ad), []byte(text))
	return string(box)
}

// Open: the text of a box.
func (ofBytes) Open(key string, n uint64, ad, box string) (string, api.Errno) {
	k, ok := keyOf(key)
	if !ok {
		return "", api.ErrKey
	}
	text, no := aead.Open(k, n, []byte(ad), []byte(box))
	return string(text), no
}
