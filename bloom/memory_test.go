package bloom_test

import (
	"bytes"
	"slices"
	"testing"

	"pleach/api"
	"pleach/bloom"
)

// spoil writes over a list and the room behind it.
func spoil[T any](l []T, x T) {
	room := l[:cap(l)]
	for i := range room {
		room[i] = x
	}
}

// P6.3: hashes that are handed in stay as they were, with the room behind them; digests are memory of their own, and nothing is kept.
func TestOfMemory(t *testing.T) {
	whole := someHashes(chance(), 60)
	was := slices.Clone(whole)
	for n := range 50 {
		l := whole[:n]
		got, other := bloom.Of(3, l), bloom.Of(3, l)
		want := slices.Clone(other)
		spoil(got, 255)
		if !slices.Equal(whole, was) || !bytes.Equal(other, want) {
			t.Fatalf("%d hashes: changed, or shared", n)
		}
		spoil(whole, api.Hash{7})
		if !bytes.Equal(other, want) {
			t.Fatalf("%d hashes: a digest shares memory with them", n)
		}
		copy(whole, was)
		if !bytes.Equal(bloom.Of(3, l), want) {
			t.Fatalf("%d hashes: something is kept", n)
		}
	}
}

// P6.3: places are memory of their own.
func TestPlacesMemory(t *testing.T) {
	h := someHash(chance())
	first, other := bloom.Places(3, h, 64), bloom.Places(3, h, 64)
	spoil(first, -1)
	if want := placesOf(3, h, 64); !slices.Equal(other, want) || !slices.Equal(bloom.Places(3, h, 64), want) {
		t.Error("two answers share memory")
	}
}

// P6.3: rows that are handed in stay as they were, with the room behind them, and a join shares memory with neither, not even where it is the same bytes.
func TestJoinMemory(t *testing.T) {
	r := chance()
	for _, n := range []int{8, 16, 8192, 0, 12, 8193} {
		a, b := someRow(r, 20000), someRow(r, 20000)
		wasA, wasB := slices.Clone(a), slices.Clone(b)
		same := func() bool { return bytes.Equal(a, wasA) && bytes.Equal(b, wasB) }
		got, e := bloom.Join(a[:n], b[:n])
		if (e == api.OK) != isRight(n) || !same() {
			t.Fatalf("Join of %d bytes: %v, or changed", n, e)
		}
		want := slices.Clone(got)
		spoil(a, 1)
		spoil(b, 2)
		if !bytes.Equal(got, want) {
			t.Fatalf("Join of %d bytes: shared", n)
		}
		copy(a, wasA)
		copy(b, wasB)
		spoil(got, 77)
		for _, c := range [][2][]byte{{a[:n], a[:n]}, {a[:n], make([]byte, n)}, {make([]byte, n), b[:n]}, {a[:n], a[n : 2*n]}} {
			got, _ := bloom.Join(c[0], c[1])
			spoil(got, 77)
		}
		if !same() {
			t.Fatalf("Join of %d bytes: an answer shares memory with an argument", n)
		}
	}
}

// P6.3: what is asked changes no row, nor the room behind it.
func TestAskMemory(t *testing.T) {
	r := chance()
	b := someRow(r, 20000)
	was := slices.Clone(b)
	for _, n := range []int{0, 7, 8, 64, 8192, 8193, 16384} {
		for _, h := range someHashes(r, 20) {
			bloom.Has(1, b[:n], h)
		}
		bloom.Right(b[:n])
		bloom.Count(b[:n])
	}
	if !bytes.Equal(b, was) {
		t.Error("a row that was asked is changed")
	}
}
