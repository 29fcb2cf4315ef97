package bloom_test

import (
	"bytes"
	"math"
	"slices"
	"testing"

	"pleach/api"
	"pleach/bloom"
)

// P6.1: the chapter's examples of sizes, the greatest number that each size has room for and its neighbours, and numbers of which ten times as much does not fit.
func TestSize(t *testing.T) {
	for _, c := range [][2]int{
		{0, 8}, {1, 8}, {5, 8}, {6, 8}, {7, 16}, {12, 16}, {13, 32}, {25, 32}, {26, 64}, {51, 64}, {52, 128},
		{102, 128}, {103, 256}, {204, 256}, {205, 512}, {409, 512}, {410, 1024}, {819, 1024}, {820, 2048},
		{1638, 2048}, {1639, 4096}, {3276, 4096}, {3277, 8192}, {4096, 8192}, {6552, 8192}, {6553, 8192}, {6554, 8192},
		{6555, 8192}, {1000000, 8192}, {math.MaxInt32, 8192}, {math.MaxInt / 10, 8192}, {math.MaxInt/10 + 1, 8192},
		{math.MaxInt / 8, 8192}, {math.MaxInt/8 + 1, 8192}, {math.MaxInt/5 + 1, 8192}, {math.MaxInt - 1, 8192}, {math.MaxInt, 8192},
		{-1, 8}, {-5, 8}, {-7, 8}, {-6554, 8}, {math.MinInt32, 8}, {math.MinInt / 10, 8}, {math.MinInt/10 - 1, 8},
		{math.MinInt / 5, 8}, {math.MinInt/5 - 1, 8}, {math.MinInt + 1, 8}, {math.MinInt, 8},
	} {
		if got := bloom.Size(c[0]); got != c[1] {
			t.Errorf("Size(%d): %d, want %d", c[0], got, c[1])
		}
	}
}

// P6.1: sizes of all numbers around those that count, and of some of every number of bits.
func TestSizeMany(t *testing.T) {
	try := func(n int) {
		if got := bloom.Size(n); got != sizeOf(n) {
			t.Fatalf("Size(%d): %d, want %d", n, got, sizeOf(n))
		}
	}
	for n := -100; n < 14000; n++ {
		try(n)
	}
	r := chance()
	for shift := range 64 {
		for range 20 {
			n := int(r.Uint64() >> shift)
			try(n)
			try(-n)
			try(1<<shift - n%8)
		}
	}
}

// P6.1: which numbers of bytes are right, of all up to some behind the greatest, whatever the bytes are and whatever room is behind them.
func TestRight(t *testing.T) {
	if bloom.Right(nil) {
		t.Error("Right of nil")
	}
	zero, full := make([]byte, 20000), bytes.Repeat([]byte{255}, 20000)
	for n := range 20000 {
		if bloom.Right(zero[:n]) != isRight(n) || bloom.Right(full[:n:n]) != isRight(n) {
			t.Errorf("Right of %d bytes: %v", n, !isRight(n))
		}
	}
	for n := 1 << 15; n <= 1<<24; n *= 2 {
		if bloom.Right(make([]byte, n)) {
			t.Errorf("Right of %d bytes", n)
		}
	}
}

// P6.1: no hashes, one, the same one twice and more often; an element that stands twice counts twice for the size.
func TestOfFew(t *testing.T) {
	h := someHash(chance())
	for _, salt := range salts() {
		for _, none := range [][]api.Hash{nil, {}} {
			if b := bloom.Of(salt, none); !bytes.Equal(b, make([]byte, 8)) {
				t.Errorf("Of none: %x", b)
			}
		}
		for n := 1; n <= 60; n++ {
			want := rowOf(sizeOf(n), placesOf(salt, h, sizeOf(n))...)
			if b := bloom.Of(salt, slices.Repeat([]api.Hash{h}, n)); !bytes.Equal(b, want) {
				t.Errorf("Of one hash %d times: %x, want %x", n, b, want)
			}
		}
	}
}

// P6.1, P6.2: a digest's bits are 1 just at the places of its elements, it is right, and has each of them, at every number of elements at which the size doubles and beside it.
func TestOfMany(t *testing.T) {
	r := chance()
	whole := someHashes(r, 7000)
	numbers := []int{1, 2, 3, 4, 5, 4095, 4096, 6553, 6554, 6999}
	for _, size := range sizes() {
		numbers = append(numbers, 8*size/10-1, 8*size/10, 8*size/10+1)
	}
	for i, n := range numbers {
		salt := salts()[i%len(salts())]
		l := whole[:n]
		b := bloom.Of(salt, l)
		if len(b) != sizeOf(n) || !bloom.Right(b) {
			t.Fatalf("%d hashes: %d bytes", n, len(b))
		}
		want := allPlaces(salt, l, len(b))
		if !slices.Equal(bitsOf(b), want) {
			t.Fatalf("%d hashes: bits elsewhere than at their places", n)
		}
		if bloom.Count(b) != len(want) {
			t.Errorf("%d hashes: %d bits counted of %d", n, bloom.Count(b), len(want))
		}
		for k, h := range l {
			if is, e := bloom.Has(salt, b, h); !is || e != api.OK {
				t.Fatalf("%d hashes: Has number %d: %v %v", n, k, is, e)
			}
		}
	}
}

// P6.1: the order of the elements tells nothing, and hashes that differ in one byte are two.
func TestOfOrder(t *testing.T) {
	r := chance()
	l := someHashes(r, 30)
	for i := range 32 {
		near := l[0]
		near[i] ^= 1 << (i % 8)
		l = append(l, near)
	}
	first := bloom.Of(9, l)
	if !bytes.Equal(first, rowOf(128, allPlaces(9, l, 128)...)) {
		t.Error("Of hashes near to one another")
	}
	for range 20 {
		r.Shuffle(len(l), func(i, k int) { l[i], l[k] = l[k], l[i] })
		if !bytes.Equal(bloom.Of(9, l), first) {
			t.Fatal("Of the same in another order")
		}
	}
}

// P6.1: Has at rows that are not right: false and ErrShape, even where all bits are 1.
func TestHasShape(t *testing.T) {
	h := someHash(chance())
	full := bytes.Repeat([]byte{255}, 1<<15)
	for _, n := range []int{0, 1, 2, 4, 7, 9, 12, 15, 17, 24, 8191, 8193, 12288, 16384, 1 << 15} {
		for _, b := range [][]byte{full[:n], make([]byte, n)} {
			if is, e := bloom.Has(1, b, h); is || e != api.ErrShape {
				t.Errorf("Has of %d bytes: %v %v", n, is, e)
			}
		}
	}
	if is, e := bloom.Has(0, nil, api.Hash{}); is || e != api.ErrShape {
		t.Errorf("Has of nil: %v %v", is, e)
	}
}

// P6.1: Has is true just if the bits at all places are 1: of the row that has no others, of the full one, and of each with one of them turned.
func TestHasEachPlace(t *testing.T) {
	r := chance()
	for _, size := range sizes() {
		for _, salt := range salts() {
			h := someHash(r)
			places := placesOf(salt, h, size)
			for _, b := range [][]byte{rowOf(size, places...), bytes.Repeat([]byte{255}, size)} {
				if is, e := bloom.Has(salt, b, h); !is || e != api.OK {
					t.Errorf("%d bytes, salt %x: %v %v", size, salt, is, e)
				}
				for _, p := range places {
					lacks := slices.Clone(b)
					lacks[p/8] &^= 1 << (p % 8)
					if is, e := bloom.Has(salt, lacks, h); is || e != api.OK {
						t.Errorf("%d bytes, salt %x, without bit %d: %v %v", size, salt, p, is, e)
					}
				}
			}
			rest := bytes.Repeat([]byte{255}, size)
			for _, p := range places {
				rest[p/8] &^= 1 << (p % 8)
			}
			if is, e := bloom.Has(salt, rest, h); is || e != api.OK {
				t.Errorf("%d bytes, salt %x, all other bits: %v %v", size, salt, is, e)
			}
		}
	}
}

// P6.1: Has of any right row and any hash is what the bits say: lies, which there are, among them.
func TestHasMany(t *testing.T) {
	r := chance()
	lies := 0
	for i := range 4000 {
		size := sizes()[i%len(sizes())]
		b := someRow(r, size)
		for k := range b {
			b[k] |= byte(r.Uint32())
		}
		h, salt := someHash(r), r.Uint64()
		want := true
		for _, p := range placesOf(salt, h, size) {
			want = want && slices.Contains(bitsOf(b[p/8:p/8+1]), p%8)
		}
		if want {
			lies++
		}
		if is, e := bloom.Has(salt, b, h); is != want || e != api.OK {
			t.Fatalf("%d bytes, salt %x: %v %v", size, salt, is, e)
		}
	}
	if lies < 100 || lies > 3900 {
		t.Errorf("%d lies: the rows try too little", lies)
	}
}

// P6.1: digests lie seldom, and with another salt about others.
func TestLies(t *testing.T) {
	r := chance()
	l, others := someHashes(r, 819), someHashes(r, 4000)
	b, c := bloom.Of(1, l), bloom.Of(2, l)
	lies, both := 0, 0
	for _, h := range others {
		first, _ := bloom.Has(1, b, h)
		second, _ := bloom.Has(2, c, h)
		if first {
			lies++
		}
		if first && second {
			both++
		}
	}
	if lies == 0 || lies > 120 || both > 10 {
		t.Errorf("%d lies of %d, %d by both salts", lies, len(others), both)
	}
}

// P6.1: the chapter's example, and rows of every right size against one another by bits.
func TestJoin(t *testing.T) {
	got, e := bloom.Join([]byte{1, 0, 0, 0, 0, 0, 0, 0x80}, []byte{3, 0, 4, 0, 0, 0, 0, 1})
	if e != api.OK || !bytes.Equal(got, []byte{3, 0, 4, 0, 0, 0, 0, 0x81}) {
		t.Errorf("Join: %x %v", got, e)
	}
	r := chance()
	for _, size := range sizes() {
		zero, full := make([]byte, size), bytes.Repeat([]byte{255}, size)
		rows := [][]byte{zero, full, someRow(r, size), someRow(r, size), rowOf(size, 0), rowOf(size, 8*size-1)}
		for _, a := range rows {
			for _, b := range rows {
				want := append(bitsOf(a), bitsOf(b)...)
				slices.Sort(want)
				got, e := bloom.Join(a, b)
				if e != api.OK || len(got) != size || !slices.Equal(bitsOf(got), slices.Compact(want)) {
					t.Fatalf("Join of %d bytes: %d bytes, %v", size, len(got), e)
				}
			}
		}
	}
}

// P6.1: Join of rows of unlike length, and of such as are not right, also with themselves and with none.
func TestJoinShape(t *testing.T) {
	lengths := append(sizes(), 0, 1, 4, 7, 9, 12, 24, 8191, 8193, 16384)
	for _, n := range lengths {
		for _, m := range lengths {
			want := api.ErrShape
			if isRight(n) && n == m {
				want = api.OK
			}
			b, e := bloom.Join(make([]byte, n), bytes.Repeat([]byte{255}, m))
			if e != want || e != api.OK && len(b) != 0 {
				t.Errorf("Join of %d and %d bytes: %d bytes, %v", n, m, len(b), e)
			}
		}
	}
	right := make([]byte, 8)
	for _, c := range [][2][]byte{{nil, nil}, {nil, right}, {right, nil}} {
		if b, e := bloom.Join(c[0], c[1]); e != api.ErrShape || len(b) != 0 {
			t.Errorf("Join of %x and %x: %x %v", c[0], c[1], b, e)
		}
	}
}

// P6.2: a join is right and has every hash that one of both digests has, whichever stands first; with itself a row is what it was.
func TestJoinHas(t *testing.T) {
	r := chance()
	for _, n := range []int{1, 6, 7, 50, 102, 103, 800, 3277, 6600} {
		l, m := someHashes(r, n), someHashes(r, n)
		a, b := bloom.Of(5, l), bloom.Of(5, m)
		ab, e := bloom.Join(a, b)
		ba, f := bloom.Join(b, a)
		if e != api.OK || f != api.OK || !bytes.Equal(ab, ba) || !bloom.Right(ab) {
			t.Fatalf("%d hashes: Join: %v %v", n, e, f)
		}
		for _, h := range append(l, m...) {
			if is, e := bloom.Has(5, ab, h); !is || e != api.OK {
				t.Fatalf("%d hashes: a join lacks one: %v", n, e)
			}
		}
		if aa, e := bloom.Join(a, a); e != api.OK || !bytes.Equal(aa, a) {
			t.Fatalf("%d hashes: Join with itself: %v", n, e)
		}
		for _, row := range [][]byte{someRow(r, len(a)), bytes.Repeat([]byte{255}, len(a)), make([]byte, len(a))} {
			with, e := bloom.Join(row, a)
			for _, h := range l {
				if is, _ := bloom.Has(5, with, h); !is || e != api.OK {
					t.Fatalf("%d hashes: a join with any row lacks one: %v", n, e)
				}
			}
		}
	}
}

// P6.1: the bits of bytes, right or not: every byte, and rows of many lengths.
func TestCount(t *testing.T) {
	if bloom.Count(nil) != 0 || bloom.Count([]byte{0xff, 1}) != 9 {
		t.Error("Count of none, of ff 01")
	}
	for x := range 256 {
		if got := bloom.Count([]byte{byte(x)}); got != len(bitsOf([]byte{byte(x)})) {
			t.Errorf("Count(%x): %d", x, got)
		}
	}
	r := chance()
	for _, n := range []int{2, 3, 4, 7, 8, 9, 12, 63, 64, 65, 8192, 8193, 16384, 100001} {
		b := someRow(r, n)
		if got := bloom.Count(b); got != len(bitsOf(b)) {
			t.Errorf("Count of %d bytes: %d", n, got)
		}
		if got := bloom.Count(bytes.Repeat([]byte{255}, n)); got != 8*n {
			t.Errorf("Count of %d bytes ff: %d", n, got)
		}
	}
}
