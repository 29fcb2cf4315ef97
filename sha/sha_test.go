package sha_test

import (
	"bytes"
	"crypto/sha256"
	"math/rand/v2"
	"strings"
	"testing"

	"pleach/api"
	"pleach/sha"
)

const (
	none = "e3b0c44298fc1c149afbf4c8996fb92427ae41e4649b934ca495991b7852b855"
	abc  = "ba7816bf8f01cfea414140de5dae2223b00361a396177a9cb410ff61f20015ad"
)

// chance tells numbers that look random, and are the same at every run.
func chance() *rand.Rand { return rand.New(rand.NewPCG(1, 2)) }

func someBytes(r *rand.Rand, n int) []byte {
	b := make([]byte, n)
	for i := range b {
		b[i] = byte(r.Uint32())
	}
	return b
}

func wantHash(t *testing.T, what string, got api.Hash, text string) {
	t.Helper()
	if sha.Print(got) != text {
		t.Errorf("%s: %s, want %s", what, sha.Print(got), text)
	}
}

// P1.1: the chapter's examples, and published ones.
func TestOfKnownRows(t *testing.T) {
	for _, c := range []struct{ row, want string }{
		{"", none},
		{"abc", abc},
		{"abcdbcdecdefdefgefghfghighijhijkijkljklmklmnlmnomnopnopq", "248d6a61d20638b8e5c026930c3e6039a33ce45964ff2167f6ecedd419db06c1"},
		{strings.Repeat("a", 55), "9f4390f8d30c2dd92ec9f095b65e2b9ae9b0a925a5258e241c9f1e910f734318"},
		{strings.Repeat("a", 56), "b35439a4ac6f0948b6d6f9e3c6af0f5f590ce20f1bde7090ef7970686ec6738a"},
		{strings.Repeat("a", 63), "7d3e74a05d7db15bce4ad9ec0658ea98e3f06eeecf16b4c6fff2da457ddc2f34"},
		{strings.Repeat("a", 64), "ffe054fe7ae0cb6dc65c3af9b61d5209f439851db43d0ba5997337df154668eb"},
		{strings.Repeat("a", 1000000), "cdc76e5c9914fb9281a1c7e284d73e67f1809a48a497200e046d39ccc7112cd0"},
	} {
		wantHash(t, "a row known", sha.Of([]byte(c.row)), c.want)
	}
	wantHash(t, "nil", sha.Of(nil), none)
	wantHash(t, "an empty row", sha.Of([]byte{}), none)
}

// P1.1: every length up to some pieces, so that the end falls at every place of a piece.
func TestOfEveryLength(t *testing.T) {
	row := someBytes(chance(), 400)
	for n := range row {
		if got := sha.Of(row[:n]); got != sha256.Sum256(row[:n]) {
			t.Errorf("%d bytes: %s", n, sha.Print(got))
		}
	}
}

// P1.1: each bit of a piece counts, the first and the last one too.
func TestOfEveryBit(t *testing.T) {
	for i := range 128 * 8 {
		row := make([]byte, 128)
		row[i/8] = 1 << (i % 8)
		if sha.Of(row) != sha256.Sum256(row) {
			t.Errorf("bit %d", i)
		}
	}
}

// P1.1: a row whose number of bits has more than 32 bits.
func TestOfLongRow(t *testing.T) {
	t.Parallel()
	row := someBytes(chance(), 1<<20)
	d, want := sha.New(), sha256.New()
	for range 1<<9 + 1 {
		d.Write(row)
		want.Write(row)
	}
	if got := d.Sum(); got != api.Hash(want.Sum(nil)) {
		t.Errorf("%d bytes: %s", d.Len(), sha.Print(got))
	}
	if d.Len() != (1<<9+1)<<20 {
		t.Errorf("Len: %d", d.Len())
	}
}

// P1.1: rows one behind the other, empty ones among them, and none.
func TestOfAll(t *testing.T) {
	wantHash(t, "no rows", sha.OfAll(), none)
	wantHash(t, "a nil list", sha.OfAll([][]byte(nil)...), none)
	wantHash(t, "empty rows", sha.OfAll(nil, []byte{}, nil), none)
	wantHash(t, "a, nothing, bc", sha.OfAll([]byte("a"), []byte{}, []byte("bc")), abc)
	wantHash(t, "nothing around abc", sha.OfAll(nil, []byte("abc"), nil), abc)
	if sha.OfAll([]byte("bc"), []byte("a")) == sha.Of([]byte("abc")) {
		t.Error("OfAll takes rows in another order")
	}
}

// P1.2: the chapter's example, step by step.
func TestDigestSteps(t *testing.T) {
	d := sha.New()
	wantDigest(t, "new", d, nil)
	d.Write([]byte("ab"))
	wantDigest(t, "ab", d, []byte("ab"))
	c := d.Copy()
	d.Write([]byte("c"))
	wantDigest(t, "abc", d, []byte("abc"))
	wantHash(t, "abc", d.Sum(), abc)
	wantDigest(t, "the copy", c, []byte("ab"))
	d.Reset()
	wantDigest(t, "reset", d, nil)
	wantHash(t, "reset", d.Sum(), none)
	wantDigest(t, "the copy, behind the reset", c, []byte("ab"))
	d.Write(nil)
	d.Write([]byte{})
	wantDigest(t, "nothing written", d, nil)
	d.Write([]byte("abc"))
	wantHash(t, "abc, behind a reset", d.Sum(), abc)
}

// wantDigest asks twice: asking changes nothing.
func wantDigest(t *testing.T, what string, d *sha.Digest, row []byte) {
	t.Helper()
	for range 2 {
		if d.Len() != len(row) {
			t.Fatalf("%s: Len %d, want %d", what, d.Len(), len(row))
		}
		if got := d.Sum(); got != sha256.Sum256(row) {
			t.Fatalf("%s: Sum %s of %d bytes", what, sha.Print(got), len(row))
		}
	}
}

// P1.2: Sum at every place of a piece leaves what comes behind it as it is.
func TestSumBetweenBytes(t *testing.T) {
	row := someBytes(chance(), 200)
	d := sha.New()
	for i, x := range row {
		wantDigest(t, "byte by byte", d, row[:i])
		d.Write([]byte{x})
	}
	wantDigest(t, "all bytes", d, row)
}

// P1.2: neither a Digest nor its copy sees what is done to the other, at every place of a piece.
func TestCopiesApart(t *testing.T) {
	row, more := someBytes(chance(), 130), bytes.Repeat([]byte("x"), 70)
	for n := range len(row) {
		d := sha.New()
		d.Write(row[:n])
		c := d.Copy()
		d.Write(more)
		wantDigest(t, "a copy, when its first one grew", c, row[:n])
		c.Write(row[n:])
		wantDigest(t, "a copy that grew", c, row)
		wantDigest(t, "the first one, when its copy grew", d, append(bytes.Clone(row[:n]), more...))
		c.Reset()
		wantDigest(t, "a copy reset", c, nil)
		wantDigest(t, "the first one, when its copy was reset", d, append(bytes.Clone(row[:n]), more...))
	}
}

// P1.2, P1.5: many Digests, done to in turns, against rows that tell what each has.
func TestDigestsInTurns(t *testing.T) {
	r := chance()
	digests, rows := []*sha.Digest{sha.New()}, [][]byte{nil}
	for range 4000 {
		i := r.IntN(len(digests))
		switch r.IntN(12) {
		case 0:
			digests[i].Reset()
			rows[i] = nil
		case 1:
			if len(digests) < 8 {
				digests, rows = append(digests, digests[i].Copy()), append(rows, bytes.Clone(rows[i]))
			}
		case 2:
			if len(digests) < 8 {
				digests, rows = append(digests, sha.New()), append(rows, nil)
			}
		case 3:
			digests[i], rows[i] = digests[i].Copy(), bytes.Clone(rows[i])
		default:
			b := someBytes(r, r.IntN(150))
			digests[i].Write(b)
			rows[i] = append(rows[i], b...)
		}
		for j, d := range digests {
			wantDigest(t, "in turns", d, rows[j])
		}
	}
}

// P1.5: every cut of a row in three pieces, at once and by a Digest that is asked between.
func TestPieces(t *testing.T) {
	row := someBytes(chance(), 131)
	want := sha.Of(row)
	for i := range len(row) + 1 {
		for j := i; j <= len(row); j++ {
			if sha.OfAll(row[:i], row[i:j], row[j:]) != want {
				t.Fatalf("OfAll, cut at %d and %d", i, j)
			}
			d := sha.New()
			d.Write(row[:i])
			d.Sum()
			d.Write(row[i:j])
			d.Copy().Write(row)
			d.Write(row[j:])
			if d.Sum() != want || d.Len() != len(row) {
				t.Fatalf("a Digest, cut at %d and %d", i, j)
			}
		}
	}
}

// P1.6: what was handed to Write may be written over, whether it made a piece or not.
func TestWrittenOver(t *testing.T) {
	for n := range 200 {
		row := someBytes(chance(), n)
		want := bytes.Clone(row)
		d := sha.New()
		d.Write(row)
		c := d.Copy()
		clear(row)
		wantDigest(t, "written over", d, want)
		wantDigest(t, "a copy, written over", c, want)
	}
}

// P1.6: neither the bytes that are handed in nor the room behind them change.
func TestRowsStay(t *testing.T) {
	for n := range 200 {
		whole := someBytes(chance(), 300)
		want := bytes.Clone(whole)
		row := whole[:n]
		list := [][]byte{row, whole[n:250], nil}
		sha.Of(row)
		sha.OfAll(list...)
		d := sha.New()
		d.Write(row)
		d.Sum()
		d.Write(row)
		d.Reset()
		if !bytes.Equal(whole, want) {
			t.Fatalf("%d bytes: changed", n)
		}
		if len(list[0]) != n || len(list[1]) != 250-n || list[2] != nil {
			t.Fatalf("%d bytes: the list of rows changed", n)
		}
	}
}
