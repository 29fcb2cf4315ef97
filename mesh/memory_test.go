package mesh_test

import (
	"slices"
	"testing"

	"pleach/api"
)

// fill writes over bytes, the room behind them too.
func fill(b []byte) {
	b = b[:cap(b)]
	for i := range b {
		b[i] = '#'
	}
}

// roomy tells a row of bytes with room behind it, and the whole of it.
func roomy(text string) (given, whole []byte) {
	whole = []byte(text + "behind it")
	return whole[:len(text)], whole
}

// P21.3: what is sent is neither changed, whatever befalls the message, nor kept: who sent it may write over it.
func TestSentStays(t *testing.T) {
	for _, text := range []string{"", "a", "abc", "abcdefgh", "a text of some more bytes than those"} {
		given, whole := roomy(text)
		m := with(t)
		for range 3 {
			wantE(t, "Send", m.Send(1, 2, given), api.OK)
			wantE(t, "Send", m.Send(2, 1, given), api.OK)
		}
		m.Twice(1, 2, 0)
		for i := range 4 {
			m.Flip(1, 2, i, i, 0x55)
		}
		m.Clip(1, 2, 1, -1)
		m.Swap(1, 2, 0, 2)
		for range 2 {
			b, _ := m.Take(1, 2)
			fill(b)
		}
		if string(whole) != text+"behind it" {
			t.Errorf("what was sent became %q", whole)
		}
		fill(whole)
		wantLeft(t, "written over", m, 2, 1, text, text, text)
	}
}

// P21.3: what is taken is nobody's but its taker's: neither what is under way nor what else is taken changes with it, spare room included.
func TestTakenIsOwn(t *testing.T) {
	l := []string{"", "a", "abc", "abcdefgh", "a text of some more bytes than those", "abc"}
	m := with(t, l...)
	for i := range l {
		wantE(t, "Twice", m.Twice(1, 2, i), api.OK)
	}
	for i := range l {
		wantE(t, "Twice", m.Twice(1, 2, len(l)+i), api.OK)
	}
	took := [][]byte{}
	for i := range 3 * len(l) {
		b, err := m.Take(1, 2)
		if err != nil || string(b) != l[i%len(l)] {
			t.Fatalf("message %d: %q, %v", i, b, err)
		}
		keep := slices.Clone(took)
		for j := range keep {
			keep[j] = slices.Clone(took[j])
		}
		fill(b)
		for j := range keep {
			if !slices.Equal(keep[j], took[j]) {
				t.Fatalf("message %d changed with message %d", j, i)
			}
		}
		took = append(took, b)
	}
}

// P21.3: what was taken stays as it was, whatever is done on the mesh then.
func TestTakenStays(t *testing.T) {
	m := with(t, "abcd", "efgh", "ijkl")
	m.Twice(1, 2, 0)
	m.Clip(1, 2, 0, 3)
	b, _ := m.Take(1, 2)
	for range 20 {
		send(t, m, 1, 2, "wxyz", "")
		m.Twice(1, 2, 0)
		for i := range m.Len(1, 2) {
			m.Flip(1, 2, i, i, 0xff)
		}
		m.Swap(1, 2, 0, 1)
		m.Drop(1, 2, 1)
		m.Clip(1, 2, 0, -1)
	}
	m.Clear(1, 2)
	send(t, m, 1, 2, "mnop")
	if string(b) != "abc" {
		t.Errorf("it became %q", b)
	}
	fill(b)
	wantLeft(t, "then", m, 1, 2, "mnop")
}

// P21.3: a clipped message, taken, shares nothing with the one that it was doubled from, nor with those beside it, in its spare room either.
func TestClippedIsOwn(t *testing.T) {
	m := with(t, "abcdef", "ghijkl")
	m.Twice(1, 2, 0)
	m.Clip(1, 2, 0, 2)
	m.Twice(1, 2, 0)
	m.Clip(1, 2, 3, 1)
	b, err := m.Take(1, 2)
	if err != nil || string(b) != "ab" {
		t.Fatalf("%q, %v", b, err)
	}
	if room := b[len(b):cap(b)]; slices.Contains(room, 'c') {
		t.Errorf("what was cut off is there: %q", room)
	}
	fill(b)
	wantLeft(t, "then", m, 1, 2, "ghijkl", "abcdef", "a")
}
