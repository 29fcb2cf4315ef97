package seal_test

import (
	"bytes"
	"crypto/hmac"
	"crypto/sha256"
	"encoding/hex"
	"math/rand/v2"
	"strings"
	"testing"

	"pleach/api"
	"pleach/seal"
	"pleach/sha"
)

// chance tells numbers that look random, and are the same at every run.
func chance() *rand.Rand { return rand.New(rand.NewPCG(1, 2)) }

func someBytes(r *rand.Rand, n int) []byte {
	b := make([]byte, n)
	for i := range b {
		b[i] = byte(r.Uint32())
	}
	return b
}

// fill tells n bytes c.
func fill(c byte, n int) []byte { return bytes.Repeat([]byte{c}, n) }

// macOf tells a Mac by the library's means.
func macOf(key, b []byte) api.Hash {
	m := hmac.New(sha256.New, key)
	m.Write(b)
	return api.Hash(m.Sum(nil))
}

// unhex tells the bytes of a text of base sixteen.
func unhex(t *testing.T, text string) []byte {
	t.Helper()
	b, err := hex.DecodeString(strings.ReplaceAll(text, " ", ""))
	if err != nil {
		t.Fatal(err)
	}
	return b
}

// P3.1: the chapter's examples, and published ones (RFC 4231), keys of more than 64 bytes among them.
func TestMacKnown(t *testing.T) {
	for _, c := range []struct {
		key, row []byte
		want     string
	}{
		{fill(0x0b, 20), []byte("Hi There"), "b0344c61d8db38535ca8afceaf0bf12b881dc200c9833da726e9376c2e32cff7"},
		{[]byte("Jefe"), []byte("what do ya want for nothing?"), "5bdcc146bf60754e6a042426089575c75a003f089d2739839dec58b964ec3843"},
		{fill(0xaa, 20), fill(0xdd, 50), "773ea91e36800e46854db8ebd09181a72959098b3ef8c122d9635514ced565fe"},
		{unhex(t, "0102030405060708090a0b0c0d0e0f10111213141516171819"), fill(0xcd, 50), "82558a389a443c0ea4cc819899f2083a85f0faa3e578f8077a2e3ff46729665b"},
		{fill(0xaa, 131), []byte("Test Using Larger Than Block-Size Key - Hash Key First"), "60e431591ee0b67f0d8a26aacbf5b77f8e0bc6213728c5140546040f0ee37f54"},
		{fill(0xaa, 131), []byte("This is a test using a larger than block-size key and a larger than block-size data. The key needs to be hashed before being used by the HMAC algorithm."), "9b09ffa71b942fcb27635fbcd5b0e944bfdc63644f0713938a7f51535c3a35e2"},
		{nil, nil, "b613679a0814d9ec772f95d778c35fc5ff1697c493715653c6c712144292c5ad"},
	} {
		if got := sha.Print(seal.Mac(c.key, c.row)); got != c.want {
			t.Errorf("Mac of %x and %q: %s", c.key, c.row, got)
		}
	}
}

// P3.1: keys of every length up to some blocks, 31 to 33 and 63 to 65 bytes among them, and rows of many lengths.
func TestMacEveryLength(t *testing.T) {
	r := chance()
	key, row := someBytes(r, 200), someBytes(r, 200)
	for n := range len(key) + 1 {
		for _, m := range []int{0, 1, 31, 32, 33, 55, 56, 63, 64, 65, 128, n} {
			if got := seal.Mac(key[:n], row[:m]); got != macOf(key[:n], row[:m]) {
				t.Errorf("a key of %d bytes, a row of %d: %s", n, m, sha.Print(got))
			}
		}
	}
	long := someBytes(r, 100000)
	if seal.Mac(long, long) != macOf(long, long) {
		t.Error("a long key, a long row")
	}
}

// P3.1: each bit of a key counts, and each of a row.
func TestMacEveryBit(t *testing.T) {
	for i := range 80 * 8 {
		one := make([]byte, 80)
		one[i/8] = 1 << (i % 8)
		for _, c := range [][2][]byte{{one[:64], nil}, {one, nil}, {fill(7, 32), one}} {
			if seal.Mac(c[0], c[1]) != macOf(c[0], c[1]) {
				t.Errorf("bit %d, a key of %d bytes", i, len(c[0]))
			}
		}
	}
}

// P3.1: a key is what it is with bytes 0 behind it up to 64, and behind that its hash.
func TestMacKeyBlock(t *testing.T) {
	row := []byte("row")
	for n := range 65 {
		if seal.Mac(fill(9, n), row) != seal.Mac(append(fill(9, n), make([]byte, 64-n)...), row) {
			t.Errorf("a key of %d bytes, and with bytes 0 behind it", n)
		}
	}
	long := fill(9, 65)
	h := sha.Of(long)
	if seal.Mac(long, row) != seal.Mac(h[:], row) {
		t.Error("a key of 65 bytes is its hash")
	}
	whole := fill(9, 64)
	h = sha.Of(whole)
	if seal.Mac(whole, row) == seal.Mac(h[:], row) {
		t.Error("a key of 64 bytes is itself")
	}
}

// P3.4: neither a key nor a row is changed, the room behind them neither; what is written over later counts no more.
func TestMacMemory(t *testing.T) {
	for _, n := range []int{0, 1, 32, 63, 64, 65, 100} {
		key, row := fill(5, 200), fill(6, 200)
		first := seal.Mac(key[:n], row[:n])
		if !bytes.Equal(key, fill(5, 200)) || !bytes.Equal(row, fill(6, 200)) {
			t.Fatalf("%d bytes: changed", n)
		}
		want := first
		for i := range key {
			key[i], row[i] = 77, 78
		}
		if first != want || seal.Mac(fill(5, n), fill(6, n)) != want {
			t.Fatalf("%d bytes: kept", n)
		}
	}
	shared := someBytes(chance(), 100)
	if seal.Mac(shared, shared) != macOf(shared, shared) || seal.Mac(shared[:60], shared[40:]) != macOf(shared[:60], shared[40:]) {
		t.Error("a key and a row that share memory")
	}
}
