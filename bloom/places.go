package bloom

import (
	"pleach/api"
	"pleach/sha"
)

// Places tells which bits stand for a hash.
func Places(salt uint64, h api.Hash, size int) []int {
	if !isSize(size) {
		return nil
	}
	p := places(salt, h, size)
	return p[:]
}

// places is Places, of a size that a digest may have.
func places(salt uint64, h api.Hash, size int) [4]int {
	var p [4]int
	x := numbers(salt, h)
	for i := range 4 {
		p[i] = int(x[i] % uint64(8*size))
	}
	return p
}

// numbers tells the four numbers of a hash, which hang on no size. The salt is hashed with it, so that two salts lie about unlike hashes.
func numbers(salt uint64, h api.Hash) [4]uint64 {
	var s [8]byte
	for i := range 8 {
		s[i] = byte(salt >> (8 * i))
	}
	sum := sha.OfAll(s[:], h[:])
	var x [4]uint64
	for i := range 4 {
		for k := range 8 {
			x[i] |= uint64(sum[8*i+k]) << (8 * k)
		}
	}
	return x
}
