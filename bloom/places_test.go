package bloom_test

import (
	"bytes"
	"math"
	"slices"
	"testing"

	"pleach/api"
	"pleach/bloom"
	"pleach/sha"
)

// P6.1: places worked out once by other means: salt 1 and the hash of "x", at the least size, one between and the greatest.
func TestPlacesKnown(t *testing.T) {
	h := sha.Of([]byte("x"))
	for _, c := range []struct {
		size int
		want []int
	}{
		{8, []int{39, 10, 8, 9}},
		{1024, []int{3431, 3082, 4616, 6473}},
		{8192, []int{19815, 11274, 4616, 6473}},
	} {
		if got := bloom.Places(1, h, c.size); !slices.Equal(got, c.want) {
			t.Errorf("Places of %d bytes: %v, want %v", c.size, got, c.want)
		}
	}
}

// P6.1: the four places of many hashes, with many salts, at every right size, in their order.
func TestPlaces(t *testing.T) {
	r := chance()
	hashes := append(someHashes(r, 40), api.Hash{}, api.Hash(bytes.Repeat([]byte{255}, 32)))
	for i := range 32 {
		var low, high api.Hash
		low[i], high[i] = 1, 128
		hashes = append(hashes, low, high)
	}
	for _, size := range sizes() {
		for _, h := range hashes {
			for _, salt := range append(salts(), r.Uint64()) {
				if got, want := bloom.Places(salt, h, size), placesOf(salt, h, size); !slices.Equal(got, want) {
					t.Fatalf("Places(%x, %x, %d): %v, want %v", salt, h, size, got, want)
				}
			}
		}
	}
}

// P6.1: each bit of the salt counts.
func TestPlacesSalt(t *testing.T) {
	for i := range 64 {
		if got, want := bloom.Places(1<<i, api.Hash{}, 8192), placesOf(1<<i, api.Hash{}, 8192); !slices.Equal(got, want) {
			t.Errorf("salt 1 << %d: %v, want %v", i, got, want)
		}
	}
}

// P6.1: two places that are the same are both told.
func TestPlacesSame(t *testing.T) {
	r := chance()
	found := 0
	for range 200 {
		h := someHash(r)
		got := bloom.Places(0, h, 8)
		if len(got) != 4 {
			t.Fatalf("Places: %v", got)
		}
		slices.Sort(got)
		if len(slices.Compact(got)) < 4 {
			found++
		}
	}
	if found == 0 {
		t.Error("no hash has two places that are the same")
	}
}

// P6.1: no places, if no right row has so many bytes: all numbers around the right ones, and some far away, below 0 too.
func TestPlacesNone(t *testing.T) {
	h := someHash(chance())
	try := func(size int) {
		want := 0
		if isRight(size) {
			want = 4
		}
		if got := bloom.Places(7, h, size); len(got) != want {
			t.Errorf("Places of %d bytes: %v", size, got)
		}
	}
	for size := -9000; size < 17000; size++ {
		try(size)
	}
	for shift := range 64 {
		try(1 << shift)
		try(-1 << shift)
		try(3 << shift)
	}
	try(math.MaxInt)
	try(math.MinInt + 8)
	if got := bloom.Places(0, api.Hash{}, 12); len(got) != 0 {
		t.Errorf("Places(0, zero, 12): %v", got)
	}
}
