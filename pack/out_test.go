package pack_test

import (
	"bytes"
	"encoding/binary"
	"encoding/hex"
	"math"
	"math/rand/v2"
	"strings"
	"testing"

	"pleach/api"
	"pleach/pack"
)

// chance tells numbers that look random, and are the same at every run.
func chance() *rand.Rand { return rand.New(rand.NewPCG(1, 2)) }

func someBytes(r *rand.Rand, n int) []byte {
	b := make([]byte, n)
	for i := range b {
		b[i] = byte(r.Uint32())
	}
	return b
}

// fromHex tells bytes of their digits, with spaces between.
func fromHex(text string) []byte {
	b, err := hex.DecodeString(strings.ReplaceAll(text, " ", ""))
	if err != nil {
		panic(err)
	}
	return b
}

// edges tells the numbers around all powers of two, and 0.
func edges() []uint64 {
	l := []uint64{}
	for i := range 64 {
		p := uint64(1) << i
		l = append(l, p-1, p, p+1, -p)
	}
	return append(l, math.MaxUint64)
}

// laid tells what an Out has behind a call.
func laid(do func(o *pack.Out)) []byte {
	o := pack.NewOut()
	do(o)
	return o.Done()
}

const nineFull = "ff ff ff ff ff ff ff ff ff"

// P2.1: the chapter's examples, the edges of every group of seven bits, and 0.
func TestSize(t *testing.T) {
	for _, c := range []struct {
		x    uint64
		want int
	}{{0, 1}, {1, 1}, {127, 1}, {128, 2}, {300, 2}, {1 << 62, 9}, {1<<63 - 1, 9}, {1 << 63, 10}, {math.MaxUint64, 10}} {
		if got := pack.Size(c.x); got != c.want {
			t.Errorf("Size(%d): %d", c.x, got)
		}
	}
	for n := 1; n < 10; n++ {
		p := uint64(1) << (7 * n)
		if pack.Size(p-1) != n || pack.Size(p) != n+1 {
			t.Errorf("Size around 2^%d: %d, %d", 7*n, pack.Size(p-1), pack.Size(p))
		}
	}
	for _, x := range edges() {
		if got := pack.Size(x); got != len(laid(func(o *pack.Out) { o.Number(x) })) {
			t.Errorf("Size(%d): %d", x, got)
		}
	}
}

// P2.2: the chapter's examples, and each call once.
func TestLayExamples(t *testing.T) {
	for _, c := range []struct {
		what string
		do   func(o *pack.Out)
		want string
	}{
		{"nothing", func(o *pack.Out) {}, ""},
		{"Number 0", func(o *pack.Out) { o.Number(0) }, "00"},
		{"Number 127", func(o *pack.Out) { o.Number(127) }, "7f"},
		{"Number 128", func(o *pack.Out) { o.Number(128) }, "80 01"},
		{"Number 300", func(o *pack.Out) { o.Number(300) }, "ac 02"},
		{"Number 2^63", func(o *pack.Out) { o.Number(1 << 63) }, strings.Repeat("80", 9) + "01"},
		{"Number 2^64 - 1", func(o *pack.Out) { o.Number(math.MaxUint64) }, nineFull + "01"},
		{"Signed 0", func(o *pack.Out) { o.Signed(0) }, "00"},
		{"Signed -1", func(o *pack.Out) { o.Signed(-1) }, "01"},
		{"Signed 1", func(o *pack.Out) { o.Signed(1) }, "02"},
		{"Signed -64", func(o *pack.Out) { o.Signed(-64) }, "7f"},
		{"Signed 64", func(o *pack.Out) { o.Signed(64) }, "80 01"},
		{"Signed -65", func(o *pack.Out) { o.Signed(-65) }, "81 01"},
		{"Signed -2^63", func(o *pack.Out) { o.Signed(math.MinInt64) }, nineFull + "01"},
		{"Signed 2^63 - 1", func(o *pack.Out) { o.Signed(math.MaxInt64) }, "fe" + nineFull[2:] + "01"},
		{"Byte 0", func(o *pack.Out) { o.Byte(0) }, "00"},
		{"Byte 255", func(o *pack.Out) { o.Byte(255) }, "ff"},
		{"Raw", func(o *pack.Out) { o.Raw([]byte{0, 255, 128}) }, "00 ff 80"},
		{"Raw of none", func(o *pack.Out) { o.Raw(nil); o.Raw([]byte{}) }, ""},
		{"Bytes", func(o *pack.Out) { o.Bytes([]byte("ab")) }, "02 61 62"},
		{"Bytes of none", func(o *pack.Out) { o.Bytes(nil); o.Bytes([]byte{}) }, "00 00"},
		{"Text", func(o *pack.Out) { o.Text("ab") }, "02 61 62"},
		{"Text of none", func(o *pack.Out) { o.Text("") }, "00"},
		{"Text of any bytes", func(o *pack.Out) { o.Text("\xff\x00\x80") }, "03 ff 00 80"},
		{"Hash", func(o *pack.Out) { o.Hash(api.Hash{0: 1, 1: 2, 31: 3}) }, "01 02" + strings.Repeat("00", 29) + "03"},
	} {
		o := pack.NewOut()
		c.do(o)
		want := fromHex(c.want)
		for range 2 { // asking changes nothing
			if got := o.Done(); !bytes.Equal(got, want) || o.Len() != len(want) {
				t.Errorf("%s: %x, %d bytes", c.what, got, o.Len())
			}
		}
	}
}

// P2.2: numbers at all edges, and many others, against the library's forms of them.
func TestLayNumbers(t *testing.T) {
	list := edges()
	r := chance()
	for range 2000 {
		list = append(list, r.Uint64()>>r.IntN(64))
	}
	for _, x := range list {
		if got := laid(func(o *pack.Out) { o.Number(x) }); !bytes.Equal(got, binary.AppendUvarint(nil, x)) {
			t.Fatalf("Number(%d): %x", x, got)
		}
		for _, y := range []int64{int64(x), -int64(x)} {
			if got := laid(func(o *pack.Out) { o.Signed(y) }); !bytes.Equal(got, binary.AppendVarint(nil, y)) {
				t.Fatalf("Signed(%d): %x", y, got)
			}
		}
	}
}

// P2.2: how many there are takes one byte, two or three.
func TestLayLengths(t *testing.T) {
	for _, n := range []int{1, 127, 128, 129, 16383, 16384, 70000} {
		b := someBytes(chance(), n)
		want := append(binary.AppendUvarint(nil, uint64(n)), b...)
		if got := laid(func(o *pack.Out) { o.Bytes(b) }); !bytes.Equal(got, want) {
			t.Errorf("Bytes of %d", n)
		}
		if got := laid(func(o *pack.Out) { o.Text(string(b)) }); !bytes.Equal(got, want) {
			t.Errorf("Text of %d", n)
		}
		if got := laid(func(o *pack.Out) { o.Raw(b) }); !bytes.Equal(got, b) {
			t.Errorf("Raw of %d", n)
		}
	}
}

// P2.2: each call lays behind all that was laid, and more may be laid behind Done.
func TestLayBehind(t *testing.T) {
	h := api.Hash(someBytes(chance(), 32))
	calls := []func(o *pack.Out){
		func(o *pack.Out) { o.Byte(7) },
		func(o *pack.Out) { o.Number(300) },
		func(o *pack.Out) { o.Signed(-300) },
		func(o *pack.Out) { o.Raw([]byte("raw")) },
		func(o *pack.Out) { o.Bytes([]byte("bytes")) },
		func(o *pack.Out) { o.Text("text") },
		func(o *pack.Out) { o.Hash(h) },
	}
	r := chance()
	o, want := pack.NewOut(), []byte{}
	for range 500 {
		do := calls[r.IntN(len(calls))]
		do(o)
		want = append(want, laid(do)...)
		if !bytes.Equal(o.Done(), want) || o.Len() != len(want) {
			t.Fatalf("%d bytes, want %x", o.Len(), want)
		}
	}
}

// P2.6: what was laid may be written over, and neither it nor the room behind it changes.
func TestLaidStays(t *testing.T) {
	for n := range 40 {
		whole := someBytes(chance(), 80)
		was := bytes.Clone(whole)
		o := pack.NewOut()
		o.Raw(whole[:n])
		o.Bytes(whole[:n])
		o.Byte(9)
		o.Number(1 << 60)
		if !bytes.Equal(whole, was) {
			t.Fatalf("%d bytes: changed by being laid", n)
		}
		want := o.Done()
		clear(whole)
		if !bytes.Equal(o.Done(), want) || !bytes.Equal(want[:n], was[:n]) {
			t.Fatalf("%d bytes: kept", n)
		}
	}
}

// P2.6: what Done answers is new memory, the room behind it too.
func TestDoneMemory(t *testing.T) {
	o := pack.NewOut()
	row := someBytes(chance(), 200)
	for i, x := range row {
		first, other := o.Done(), o.Done()
		room := first[:cap(first)]
		for j := range room {
			room[j] = ^room[j]
		}
		if !bytes.Equal(other, row[:i]) || !bytes.Equal(o.Done(), row[:i]) || o.Len() != i {
			t.Fatalf("%d bytes: an answer shares memory", i)
		}
		o.Byte(x)
		if !bytes.Equal(other, row[:i]) || !bytes.Equal(o.Done(), row[:i+1]) {
			t.Fatalf("%d bytes: an answer changed, or what was laid", i)
		}
		if i > 0 && room[0] != ^row[0] {
			t.Fatalf("%d bytes: laying wrote into an answer", i)
		}
	}
	o.Raw(o.Done())
	if !bytes.Equal(o.Done(), append(bytes.Clone(row), row...)) {
		t.Error("an Out's bytes laid behind themselves")
	}
}

// P2.6: two Outs have nothing in common.
func TestOutsApart(t *testing.T) {
	a, b := pack.NewOut(), pack.NewOut()
	a.Text("of a")
	if b.Len() != 0 || len(b.Done()) != 0 || pack.NewOut().Len() != 0 {
		t.Errorf("another Out has %x", b.Done())
	}
	b.Number(5)
	a.Byte(6)
	if string(a.Done()) != "\x04of a\x06" || string(b.Done()) != "\x05" {
		t.Errorf("%x and %x", a.Done(), b.Done())
	}
}
