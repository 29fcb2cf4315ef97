package msg_test

import (
	"bytes"
	"slices"
	"testing"

	"pleach/api"
	"pleach/msg"
)

// encoded tells the bytes of a message that may be.
func encoded(t *testing.T, m api.Message) []byte {
	t.Helper()
	b, e := msg.Encode(m)
	if e != api.OK {
		t.Fatalf("Encode of %s: error %d", show(m), e)
	}
	return b
}

// P7.4: what Encode answers Decode reads as the same message.
func TestThereAndBack(t *testing.T) {
	r := chance()
	list := append(ofEachKind(),
		api.Message{Kind: 1, Heads: hashes(4096), Salt: 1<<64 - 1, Bloom: someBytes(r, 8192), Want: hashes(4096)},
		api.Message{Kind: 2, Want: hashes(4096)},
		api.Message{Kind: 3, Blocks: filling(256, 8000, 2097152)},
		api.Message{Kind: 3, Blocks: rowsOf(1048576, 1)})
	for range 5000 {
		list = append(list, someMessage(r))
	}
	for _, m := range list {
		b := encoded(t, m)
		back, err := msg.Decode(b)
		if err != nil || !sameMessage(back, m) {
			t.Fatalf("%s: back as %s, %v", show(m), show(back), err)
		}
	}
	for shift := range 64 {
		m := api.Message{Kind: 1, Salt: 1 << shift, Bloom: make([]byte, 8)}
		if back, err := msg.Decode(encoded(t, m)); err != nil || back.Salt != m.Salt {
			t.Fatalf("Salt %x: back as %x, %v", m.Salt, back.Salt, err)
		}
	}
}

// wantOneForm: if Decode takes a row, what it tells may be, and Encode of it is just that row.
func wantOneForm(t *testing.T, row []byte) bool {
	t.Helper()
	m, err := msg.Decode(row)
	if err != nil {
		return false
	}
	if e := msg.Check(m); e != api.OK {
		t.Fatalf("%.60x is read, and Check of it: error %d", row, e)
	}
	if b := encoded(t, m); !bytes.Equal(b, row) {
		t.Fatalf("%.60x: laid again %.60x", row, b)
	}
	return true
}

// P7.4: messages with many bytes turned, and bytes put in and taken out.
func TestOneForm(t *testing.T) {
	r := chance()
	taken := 0
	for range 30000 {
		row := bytesOf(someMessage(r))
		for range r.IntN(4) {
			if len(row) == 0 {
				break
			}
			i := r.IntN(len(row))
			x := one(r, 0, 1, 2, 8, 9, 0x80, 0x81, byte(r.Uint32()))
			switch r.IntN(4) {
			case 0:
				row = slices.Insert(row, i, x)
			case 1:
				row = slices.Delete(row, i, i+1)
			default:
				row[i] = x
			}
		}
		if wantOneForm(t, row) {
			taken++
		}
	}
	if taken < 8000 {
		t.Errorf("only %d rows were taken", taken)
	}
}

// P7.4: no two messages have the same bytes.
func TestBytesApart(t *testing.T) {
	r := chance()
	by := map[string]api.Message{}
	for range 5000 {
		m := someMessage(r)
		if r.IntN(2) == 0 {
			spoil(&m, r.IntN)
		}
		b, e := msg.Encode(m)
		if e != api.OK {
			continue
		}
		if was, ok := by[string(b)]; ok && !sameMessage(was, m) {
			t.Fatalf("the same bytes: %s and %s", show(was), show(m))
		}
		by[string(b)] = m
	}
}
