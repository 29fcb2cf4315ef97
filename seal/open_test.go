package seal_test

import (
	"bytes"
	"errors"
	"slices"
	"testing"

	"pleach/api"
	"pleach/seal"
)

// openOf tells what Open should answer, by the chapter's words; why is OK if the message is taken.
func openOf(key, b []byte) (e api.Envelope, why api.Errno, at int) {
	mark := [4]byte{0x50, 0x4c, 0x45, 0x31}
	for i := range 6 {
		switch {
		case i >= len(b):
			return e, api.ErrShort, i
		case i < 4 && b[i] != mark[i]:
			return e, api.ErrForm, i
		case i >= 4 && (b[i] < 1 || b[i] > 8):
			return e, api.ErrArg, i
		}
	}
	if len(b[6:]) < 4 {
		return e, api.ErrShort, 6
	}
	n := int64(b[6]) + 256*int64(b[7]) + 65536*int64(b[8]) + 16777216*int64(b[9])
	if n > 2097152 {
		return e, api.ErrOver, 6
	}
	if int64(len(b[10:])) < n+32 {
		return e, api.ErrShort, 10
	}
	if int64(len(b[10:])) > n+32 {
		return e, api.ErrRest, int(42 + n)
	}
	sum := macOf(key, b[:10+n])
	if !bytes.Equal(sum[:], b[10+n:]) {
		return e, api.ErrSeal, int(10 + n)
	}
	return api.Envelope{From: int(b[4]), To: int(b[5]), Body: b[10 : 10+n]}, api.OK, 0
}

func isZero(e api.Envelope) bool { return e.From == 0 && e.To == 0 && len(e.Body) == 0 }

func sameEnvelope(a, b api.Envelope) bool {
	return a.From == b.From && a.To == b.To && bytes.Equal(a.Body, b.Body)
}

// wantBad: Open answers that very error as a *api.Bad, and no envelope.
func wantBad(t *testing.T, what string, key, b []byte, why api.Errno, at int) {
	t.Helper()
	e, err := seal.Open(key, b)
	bad, ok := err.(*api.Bad)
	if !ok || bad == nil || *bad != (api.Bad{Why: why, At: at}) || !errors.Is(err, why) {
		t.Errorf("%s: %v, want %v at %d", what, err, why, at)
	}
	if !isZero(e) {
		t.Errorf("%s: an envelope beside an error", what)
	}
}

// wantOpen: Open answers what the chapter's words say, whatever that is.
func wantOpen(t *testing.T, what string, key, b []byte) {
	t.Helper()
	e, why, at := openOf(key, b)
	if why != api.OK {
		wantBad(t, what, key, b, why, at)
		return
	}
	if got, err := seal.Open(key, b); err != nil || !sameEnvelope(got, e) {
		t.Errorf("%s: %v, from %d to %d, %d bytes", what, err, got.From, got.To, len(got.Body))
	}
}

// sealed tells a sealed message, and its key.
func sealed(t *testing.T, e api.Envelope) (key, b []byte) {
	t.Helper()
	key = fill(7, 32)
	b, errno := seal.Seal(key, e)
	if errno != api.OK {
		t.Fatal(errno)
	}
	return key, b
}

// P3.1: the chapter's examples.
func TestOpenExamples(t *testing.T) {
	key, b := sealed(t, api.Envelope{From: 1, To: 2, Body: []byte{0x2a}})
	e, err := seal.Open(key, b)
	if err != nil || e.From != 1 || e.To != 2 || !bytes.Equal(e.Body, []byte{0x2a}) {
		t.Errorf("Open: %v %v", e, err)
	}
	wantBad(t, "without its last byte", key, b[:42], api.ErrShort, 10)
	wantBad(t, "with a byte behind", key, append(bytes.Clone(b), 0), api.ErrRest, 43)
	wantBad(t, "with another key", fill(8, 32), b, api.ErrSeal, 11)
	if e, err := seal.Open(fill(7, 31), b); err != error(api.ErrArg) || !isZero(e) {
		t.Errorf("a key of 31 bytes: %v", err)
	}
	wantBad(t, "nil", key, nil, api.ErrShort, 0)
	wantBad(t, "no bytes", key, []byte{}, api.ErrShort, 0)
	wantBad(t, "9 at 4", key, unhex(t, "50 4c 45 31 09"), api.ErrArg, 4)
	wantBad(t, "50 4d", key, unhex(t, "50 4d"), api.ErrForm, 1)
}

// P3.1: a key that has not just 32 bytes is told ahead of all else, as the number itself.
func TestOpenKeys(t *testing.T) {
	_, b := sealed(t, api.Envelope{From: 1, To: 2, Body: []byte("body")})
	for n := range 130 {
		for _, row := range [][]byte{b, nil, b[:5], []byte("no mark")} {
			e, err := seal.Open(fill(7, n), row)
			if (err == error(api.ErrArg)) != (n != 32) || err != nil && !isZero(e) {
				t.Errorf("a key of %d bytes, a row of %d: %v", n, len(row), err)
			}
		}
	}
}

// P3.1: bytes of the mark, of From and of To: every value, what comes behind being whole, cut, or wrong in its turn.
func TestOpenHead(t *testing.T) {
	key := fill(7, 32)
	body := []byte("body")
	for at := range 6 {
		for x := range 256 {
			b := layOf(key, 1, 2, 4, body)
			b[at] = byte(x)
			sum := macOf(key, b[:14])
			copy(b[14:], sum[:]) // so that the seal fits, and nothing else is told
			wantOpen(t, "whole", key, b)
			wantOpen(t, "cut behind it", key, b[:at+1])
			for i := at + 1; i < len(b); i++ {
				b[i] = 255
			}
			wantOpen(t, "wrong behind it", key, b)
		}
	}
	for from := range 12 {
		for to := range 12 {
			wantOpen(t, "From and To", key, layOf(key, byte(from), byte(to), 4, body))
		}
	}
	wantBad(t, "From 0", key, layOf(key, 0, 2, 4, body), api.ErrArg, 4)
	wantBad(t, "From 9, To 9", key, layOf(key, 9, 9, 4, body), api.ErrArg, 4)
	wantBad(t, "To 0", key, layOf(key, 8, 0, 4, body), api.ErrArg, 5)
	wantBad(t, "To 9", key, layOf(key, 8, 9, 4, body), api.ErrArg, 5)
	wantBad(t, "To 255", key, layOf(key, 8, 255, 4, body), api.ErrArg, 5)
}

// P3.1: the number of bytes at its bound and above it, each byte of it alone, with as many bytes as it tells or other than that.
func TestOpenSizes(t *testing.T) {
	key := fill(7, 32)
	few := make([]byte, 300)
	for shift := range 32 {
		for _, n := range []uint32{1 << shift, 1<<shift - 1, 1<<shift + 1} {
			for _, m := range []int{0, 1, 255, 256, 300} {
				wantOpen(t, "few bytes", key, layOf(key, 1, 2, n, few[:m]))
			}
		}
	}
	most := make([]byte, api.MaxMessage+1)
	wantBad(t, "one above, all there", key, layOf(key, 1, 2, api.MaxMessage+1, most), api.ErrOver, 6)
	wantBad(t, "one above, none there", key, unhex(t, "50 4c 45 31 01 02 01 00 20 00"), api.ErrOver, 6)
	wantBad(t, "all ones", key, layOf(key, 1, 2, 1<<32-1, few), api.ErrOver, 6)
	wantBad(t, "the highest bit", key, layOf(key, 1, 2, 1<<31, few), api.ErrOver, 6)
	wantBad(t, "the greatest, none there", key, unhex(t, "50 4c 45 31 01 02 00 00 20 00"), api.ErrShort, 10)
	wantBad(t, "the greatest, one lacks", key, layOf(key, 1, 2, api.MaxMessage, most[2:]), api.ErrShort, 10)
	wantBad(t, "the greatest, one more", key, layOf(key, 1, 2, api.MaxMessage, most), api.ErrRest, api.MaxMessage+42)
	wantBad(t, "none, one there", key, layOf(key, 1, 2, 0, few[:1]), api.ErrRest, 42)
	whole := layOf(key, 1, 2, api.MaxMessage, most[1:])
	if e, err := seal.Open(key, whole); err != nil || !bytes.Equal(e.Body, most[1:]) {
		t.Errorf("the greatest: %v, %d bytes", err, len(e.Body))
	}
	whole[len(whole)-1] ^= 1
	wantBad(t, "the greatest, another seal", key, whole, api.ErrSeal, api.MaxMessage+10)
}

// P3.1: rows of any bytes, and sealed messages that were spoiled at several places.
func TestOpenAnyBytes(t *testing.T) {
	r := chance()
	for range 20000 {
		key := someBytes(r, 32)
		body := someBytes(r, r.IntN(80))
		b := layOf(key, byte(r.IntN(10)), byte(r.IntN(10)), uint32(len(body)), body)
		for range r.IntN(3) {
			b[r.IntN(len(b))] = byte(r.Uint32())
		}
		switch r.IntN(4) {
		case 0:
			b = b[:r.IntN(len(b)+1)]
		case 1:
			b = append(b, someBytes(r, r.IntN(40))...)
		case 2:
			copy(b, someBytes(r, r.IntN(10)))
		}
		wantOpen(t, "any bytes", key, b)
	}
}

// P3.2: Open of what Seal tells is the envelope.
func TestOpenBehindSeal(t *testing.T) {
	r := chance()
	sizes := []int{65535, 65536, api.MaxMessage}
	for n := range 300 {
		sizes = append(sizes, n)
	}
	for _, n := range sizes {
		key := someBytes(r, 32)
		e := api.Envelope{From: 1 + r.IntN(8), To: 1 + r.IntN(8), Body: someBytes(r, n)}
		b, errno := seal.Seal(key, e)
		got, err := seal.Open(key, b)
		if errno != api.OK || err != nil || !sameEnvelope(got, e) {
			t.Errorf("%d bytes: %v %v", n, errno, err)
		}
	}
	for _, none := range [][]byte{nil, {}} {
		key, b := sealed(t, api.Envelope{From: 8, To: 8, Body: none})
		if got, err := seal.Open(key, b); err != nil || !sameEnvelope(got, api.Envelope{From: 8, To: 8}) {
			t.Errorf("no bytes: %v %v", got, err)
		}
	}
}

// P3.2: what Open takes, Seal tells of what it answers; so messages that are made by hand are taken only as Seal tells them.
func TestSealBehindOpen(t *testing.T) {
	r := chance()
	took := 0
	for range 5000 {
		key := someBytes(r, 32)
		body := someBytes(r, r.IntN(70))
		n := len(body) + r.IntN(3) - 1
		b := layOf(key, byte(r.IntN(10)), byte(r.IntN(10)), uint32(max(n, 0)), body)
		e, err := seal.Open(key, b)
		if err != nil {
			continue
		}
		took++
		if again, errno := seal.Seal(key, e); errno != api.OK || !bytes.Equal(again, b) {
			t.Fatalf("from %d to %d, %d bytes: %v", e.From, e.To, len(e.Body), errno)
		}
	}
	if took < 500 {
		t.Errorf("%d taken", took)
	}
}

// someSealed tells sealed messages whose bodies end at unlike places of a piece.
func someSealed(t *testing.T) (key []byte, l [][]byte) {
	r := chance()
	for _, n := range []int{0, 1, 2, 21, 22, 23, 53, 54, 55, 64, 118, 256} {
		k, b := sealed(t, api.Envelope{From: 3, To: 3, Body: someBytes(r, n)})
		key, l = k, append(l, b)
	}
	return key, l
}

// P3.3: cut short at every place.
func TestOpenCut(t *testing.T) {
	key, l := someSealed(t)
	for _, b := range l {
		for n := range len(b) {
			want := 10
			if n < 6 {
				want = n
			} else if n < 10 {
				want = 6
			}
			wantBad(t, "cut short", key, b[:n], api.ErrShort, want)
			wantBad(t, "cut short, with no room", key, slices.Clip(bytes.Clone(b[:n])), api.ErrShort, want)
		}
	}
}

// P3.3: followed by more, by itself and another message too.
func TestOpenFollowed(t *testing.T) {
	key, l := someSealed(t)
	for _, b := range l {
		for n := 1; n < 80; n++ {
			for _, c := range []byte{0, 1, 255} {
				wantBad(t, "followed by more", key, slices.Concat(b, fill(c, n)), api.ErrRest, len(b))
			}
		}
		for _, next := range l {
			wantBad(t, "followed by a message", key, slices.Concat(b, next), api.ErrRest, len(b))
		}
	}
}

// P3.3: with a byte turned at every place, into every other one.
func TestOpenTurned(t *testing.T) {
	key, l := someSealed(t)
	for _, b := range l {
		for i := range b {
			for x := 1; x < 256; x++ {
				turned := bytes.Clone(b)
				turned[i] ^= byte(x)
				e, err := seal.Open(key, turned)
				if err == nil || !isZero(e) {
					t.Fatalf("%d bytes, byte %d xor %d: taken", len(b), i, x)
				}
				if x&(x-1) == 0 {
					wantOpen(t, "a bit turned", key, turned)
				}
			}
		}
	}
}

// P3.3: a key of which one bit is another one opens nothing.
func TestOpenOtherKeys(t *testing.T) {
	key, l := someSealed(t)
	for _, b := range l {
		for bit := range 256 {
			other := bytes.Clone(key)
			other[bit/8] ^= 1 << (bit % 8)
			wantBad(t, "another key", other, b, api.ErrSeal, len(b)-32)
		}
	}
}

// P3.4: neither the key nor the message is changed, the room behind them neither, and the body is new memory, its room too.
func TestOpenMemory(t *testing.T) {
	for n := range 120 {
		k, b := sealed(t, api.Envelope{From: 1, To: 2, Body: fill(6, n)})
		key := append(bytes.Clone(k), fill(5, 40)...)
		row := append(bytes.Clone(b), fill(4, 100)...)
		wantKey, wantRow := bytes.Clone(key), bytes.Clone(row)
		got, err := seal.Open(key[:32], row[:len(b)])
		other, _ := seal.Open(key[:32], row[:len(b)])
		seal.Open(key[:31], row[:len(b)])
		seal.Open(key[1:33], row[:len(b)])
		seal.Open(key[:32], row)
		seal.Open(key[:32], row[:len(b)-1])
		if err != nil || !bytes.Equal(key, wantKey) || !bytes.Equal(row, wantRow) {
			t.Fatalf("%d bytes: changed, or %v", n, err)
		}
		room := got.Body[:cap(got.Body)]
		for i := range room {
			room[i] = 77
		}
		if !bytes.Equal(key, wantKey) || !bytes.Equal(row, wantRow) || !bytes.Equal(other.Body, fill(6, n)) {
			t.Fatalf("%d bytes: an answer shares memory", n)
		}
		for i := range row {
			row[i] = 78
		}
		if !bytes.Equal(other.Body, fill(6, n)) {
			t.Fatalf("%d bytes: the message is kept", n)
		}
	}
}

// P3.4: an error is new memory, too: who changes one changes no other.
func TestOpenErrorsApart(t *testing.T) {
	key, b := sealed(t, api.Envelope{From: 1, To: 2, Body: []byte("body")})
	turned := bytes.Clone(b)
	turned[20] ^= 1
	for _, row := range [][]byte{nil, []byte("PLEX"), b[:4], b[:5], b[:7], b[:20], append(bytes.Clone(b), 1), turned, []byte("PLE1\x09"), []byte("PLE1\x01\x02\xff\xff\xff\xff")} {
		_, first := seal.Open(key, row)
		_, why, at := openOf(key, row)
		*first.(*api.Bad) = api.Bad{Why: 99, At: 99}
		wantBad(t, "behind a changed error", key, row, why, at)
	}
}
