package seal

import (
	"pleach/api"
	"pleach/sha"
)

// block is a key with bytes 0 behind it: as many bytes as a hash takes in at once.
type block [64]byte

// blockOf tells the block of a key of any length.
func blockOf(key []byte) block {
	var k block
	if len(key) > len(k) {
		h := sha.Of(key)
		key = h[:]
	}
	copy(k[:], key)
	return k
}

// xor tells the block with each byte xor x; k is a copy, so the caller's stays as it is.
func (k block) xor(x byte) block {
	for i := range k {
		k[i] ^= x
	}
	return k
}

// Mac tells the HMAC-SHA-256 of bytes under a key.
func Mac(key, b []byte) api.Hash {
	k := blockOf(key)
	k1, k2 := k.xor(0x36), k.xor(0x5c)
	inner := sha.OfAll(k1[:], b)
	return sha.OfAll(k2[:], inner[:])
}
