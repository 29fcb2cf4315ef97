package seal_test

import (
	"bytes"
	"math"
	"testing"

	"pleach/api"
	"pleach/seal"
)

// layOf tells a sealed message by the chapter's table, whatever its parts are: hand-made ones too.
func layOf(key []byte, from, to byte, n uint32, body []byte) []byte {
	b := []byte{0x50, 0x4c, 0x45, 0x31, from, to, byte(n), byte(n >> 8), byte(n >> 16), byte(n >> 24)}
	b = append(b, body...)
	sum := macOf(key, b)
	return append(b, sum[:]...)
}

func wantSealed(t *testing.T, key []byte, e api.Envelope) {
	t.Helper()
	got, errno := seal.Seal(key, e)
	want := layOf(key, byte(e.From), byte(e.To), uint32(len(e.Body)), e.Body)
	if errno != api.OK || !bytes.Equal(got, want) {
		t.Errorf("Seal from %d to %d, %d bytes: %v, %d bytes", e.From, e.To, len(e.Body), errno, len(got))
	}
}

// P3.1: the chapter's example.
func TestSealExample(t *testing.T) {
	got, errno := seal.Seal(fill(7, 32), api.Envelope{From: 1, To: 2, Body: []byte{0x2a}})
	head := unhex(t, "50 4c 45 31 01 02 01 00 00 00 2a")
	sum := macOf(fill(7, 32), head)
	if errno != api.OK || len(got) != 43 || !bytes.Equal(got, append(head, sum[:]...)) {
		t.Errorf("Seal: %x %v", got, errno)
	}
}

// P3.1: all replicas, each for each, itself too.
func TestSealReplicas(t *testing.T) {
	for from := 1; from <= api.MaxReplicas; from++ {
		for to := 1; to <= api.MaxReplicas; to++ {
			wantSealed(t, fill(7, 32), api.Envelope{From: from, To: to, Body: []byte("body")})
		}
	}
}

// P3.1: bodies at the edges of each byte of their number, none and the greatest among them.
func TestSealBodies(t *testing.T) {
	r := chance()
	key := someBytes(r, 32)
	wantSealed(t, key, api.Envelope{From: 3, To: 4})
	wantSealed(t, key, api.Envelope{From: 3, To: 4, Body: []byte{}})
	for _, n := range []int{1, 2, 31, 32, 33, 63, 64, 65, 255, 256, 257, 65535, 65536, 65537, 0x012345, api.MaxMessage - 1, api.MaxMessage} {
		wantSealed(t, key, api.Envelope{From: 8, To: 1, Body: someBytes(r, n)})
	}
}

// P3.1: what is refused, in its order, with nothing else.
func TestSealRefused(t *testing.T) {
	key, most, over := fill(7, 32), make([]byte, api.MaxMessage), make([]byte, api.MaxMessage+1)
	for i, c := range []struct {
		key  []byte
		e    api.Envelope
		want api.Errno
	}{
		{nil, api.Envelope{From: 1, To: 2}, api.ErrArg},
		{fill(7, 1), api.Envelope{From: 1, To: 2}, api.ErrArg},
		{fill(7, 31), api.Envelope{From: 1, To: 2}, api.ErrArg},
		{fill(7, 33), api.Envelope{From: 1, To: 2}, api.ErrArg},
		{fill(7, 64), api.Envelope{From: 1, To: 2}, api.ErrArg},
		{fill(7, 65), api.Envelope{From: 1, To: 2}, api.ErrArg},
		{fill(7, 31), api.Envelope{From: 1, To: 2, Body: over}, api.ErrArg},
		{key, api.Envelope{}, api.ErrArg},
		{key, api.Envelope{From: 0, To: 2}, api.ErrArg},
		{key, api.Envelope{From: 1, To: 0}, api.ErrArg},
		{key, api.Envelope{From: -1, To: 2}, api.ErrArg},
		{key, api.Envelope{From: 1, To: -1}, api.ErrArg},
		{key, api.Envelope{From: api.MaxReplicas + 1, To: 2}, api.ErrArg},
		{key, api.Envelope{From: 1, To: api.MaxReplicas + 1}, api.ErrArg},
		{key, api.Envelope{From: 257, To: 2}, api.ErrArg}, // 1 in its lowest byte
		{key, api.Envelope{From: 1, To: 258}, api.ErrArg},
		{key, api.Envelope{From: 1<<32 + 1, To: 2}, api.ErrArg},
		{key, api.Envelope{From: math.MaxInt, To: 2}, api.ErrArg},
		{key, api.Envelope{From: 1, To: math.MinInt}, api.ErrArg},
		{key, api.Envelope{From: 9, To: 2, Body: over}, api.ErrArg},
		{key, api.Envelope{From: 1, To: 9, Body: over}, api.ErrArg},
		{key, api.Envelope{From: 1, To: 2, Body: over}, api.ErrBytes},
		{key, api.Envelope{From: 8, To: 8, Body: make([]byte, 2*api.MaxMessage)}, api.ErrBytes},
		{key, api.Envelope{From: 8, To: 8, Body: most}, api.OK},
		{key, api.Envelope{From: 1, To: 1, Body: over[:api.MaxMessage]}, api.OK}, // the room behind doesn't count
	} {
		got, errno := seal.Seal(c.key, c.e)
		if errno != c.want || (errno != api.OK) != (len(got) == 0) {
			t.Errorf("Seal %d: %v, %d bytes", i, errno, len(got))
		}
	}
}

// P3.4: neither the key nor the body is changed, the room behind them neither, and the answer shares no memory with them, its room too.
func TestSealMemory(t *testing.T) {
	for n := range 120 {
		key, body := fill(5, 100), fill(6, 200)
		e := api.Envelope{From: 1, To: 2, Body: body[:n]}
		got, errno := seal.Seal(key[:32], e)
		other, _ := seal.Seal(key[:32], e)
		if errno != api.OK || !bytes.Equal(key, fill(5, 100)) || !bytes.Equal(body, fill(6, 200)) {
			t.Fatalf("%d bytes: changed", n)
		}
		want := bytes.Clone(other)
		room := got[:cap(got)]
		for i := range room {
			room[i] = 77
		}
		if !bytes.Equal(key, fill(5, 100)) || !bytes.Equal(body, fill(6, 200)) || !bytes.Equal(other, want) {
			t.Fatalf("%d bytes: an answer shares memory", n)
		}
		for i := range body {
			body[i], key[i%100] = 78, 79
		}
		if !bytes.Equal(other, want) {
			t.Fatalf("%d bytes: an argument is kept", n)
		}
	}
}

// P3.4: a body that has the key in it, and one in whose room the key stands.
func TestSealSharedArguments(t *testing.T) {
	row := someBytes(chance(), 96)
	for _, c := range [][2][]byte{{row[:32], row}, {row[32:64], row[:32]}, {row[64:], row[:64]}, {row[:32], row[:32]}} {
		key, body := bytes.Clone(c[0]), bytes.Clone(c[1])
		got, errno := seal.Seal(c[0], api.Envelope{From: 5, To: 6, Body: c[1]})
		if errno != api.OK || !bytes.Equal(got, layOf(key, 5, 6, uint32(len(body)), body)) {
			t.Errorf("Seal of %d bytes: %v", len(body), errno)
		}
		e, err := seal.Open(key, got)
		if err != nil || !bytes.Equal(e.Body, body) {
			t.Errorf("Open of %d bytes: %v", len(body), err)
		}
	}
}
