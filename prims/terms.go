package prims

import (
	"slices"

	"signetring/api"
	"signetring/codec"
	"signetring/term"
)

// What stands ahead of the texts of a Hash, so that no digest is a key.
const (
	digestLabel = "hash"
	keyLabel    = "key"
)

// mostKeys is how many keys one Keys answers, at most: as many as of bytes.
const mostKeys = 3

// ofTerms is prims of terms: the table itself has Pub, Dh and Seal.
type ofTerms struct{ *term.Table }

// Hash: the digest of two texts: of terms it matters where the one ends.
func (o ofTerms) Hash(a, b string) string { return o.Table.Hash(digestLabel, a, b) }

// Keys: so many keys of a key and a text.
func (o ofTerms) Keys(key, b string, n int) []string {
	if n < 1 || n > mostKeys {
		return nil
	}
	l := make([]string, n)
	for i := range l {
		l[i] = o.Table.Hash(keyLabel, codec.Num(uint64(i)+1), key, b)
		if l[i] == "" {
			return nil
		}
	}
	return l
}

// Open: the text of a box.
func (o ofTerms) Open(key string, n uint64, ad, box string) (string, api.Errno) {
	kind, parts, _ := o.Parts(box)
	// Another kind of term may have parts like these.
	if kind != term.Sealed || !slices.Equal(parts[:3], []string{key, codec.Num(n), ad}) {
		return "", api.ErrTag
	}
	return parts[3], api.OK
}
