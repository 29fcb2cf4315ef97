package bloom_test

import (
	"crypto/sha256"
	"encoding/binary"
	"math/big"
	"math/rand/v2"
	"slices"

	"pleach/api"
)

// chance tells numbers that look random, and are the same at every run.
func chance() *rand.Rand { return rand.New(rand.NewPCG(1, 2)) }

func someHash(r *rand.Rand) api.Hash {
	var h api.Hash
	for i := range h {
		h[i] = byte(r.Uint32())
	}
	return h
}

func someHashes(r *rand.Rand, n int) []api.Hash {
	l := make([]api.Hash, n)
	for i := range l {
		l[i] = someHash(r)
	}
	return l
}

// someRow tells n bytes in which about one bit of four is 1.
func someRow(r *rand.Rand, n int) []byte {
	b := make([]byte, n)
	for i := range b {
		b[i] = byte(r.Uint32() & r.Uint32())
	}
	return b
}

func salts() []uint64 {
	return []uint64{0, 1, 255, 256, 1<<32 - 1, 1 << 32, 0x0123456789abcdef, 1 << 63, 1<<64 - 1}
}

// sizes tells all sizes of right rows, written out.
func sizes() []int {
	return []int{8, 16, 32, 64, 128, 256, 512, 1024, 2048, 4096, 8192}
}

func isRight(n int) bool { return slices.Contains(sizes(), n) }

// sizeOf tells Size by the chapter's words, in numbers that have no end.
func sizeOf(n int) int {
	want := new(big.Int).Mul(big.NewInt(int64(n)), big.NewInt(10))
	for _, size := range sizes() {
		if big.NewInt(int64(8*size)).Cmp(want) >= 0 {
			return size
		}
	}
	return 8192
}

// placesOf tells Places by the chapter's words, of a size that a right row has.
func placesOf(salt uint64, h api.Hash, size int) []int {
	row := binary.LittleEndian.AppendUint64(nil, salt)
	sum := sha256.Sum256(append(row, h[:]...))
	l := []int{}
	for _, at := range []int{0, 8, 16, 24} {
		x := new(big.Int).SetUint64(binary.LittleEndian.Uint64(sum[at:]))
		l = append(l, int(x.Mod(x, big.NewInt(int64(8*size))).Int64()))
	}
	return l
}

// bitsOf tells which bits of a row are 1.
func bitsOf(b []byte) []int {
	l := []int{}
	for at, x := range b {
		for k, value := range []byte{1, 2, 4, 8, 16, 32, 64, 128} {
			if x&value != 0 {
				l = append(l, 8*at+k)
			}
		}
	}
	return l
}

// allPlaces tells the places of hashes, rising, each once.
func allPlaces(salt uint64, l []api.Hash, size int) []int {
	out := []int{}
	for _, h := range l {
		out = append(out, placesOf(salt, h, size)...)
	}
	slices.Sort(out)
	return slices.Compact(out)
}

// rowOf tells a row of so many bytes whose bits are 1 just at places.
func rowOf(size int, places ...int) []byte {
	b := make([]byte, size)
	for _, p := range places {
		b[p/8] |= []byte{1, 2, 4, 8, 16, 32, 64, 128}[p%8]
	}
	return b
}
