package blocks_test

import (
	"bytes"
	"slices"
	"strings"
	"testing"

	"pleach/api"
	"pleach/blocks"
)

// fill fills a row, its spare room too.
func fill(b []byte) {
	b = b[:cap(b)]
	for i := range b {
		b[i] = '#'
	}
}

// P9.4: what is handed in stays as it was, its spare room too, whatever is answered.
func TestHandedIn(t *testing.T) {
	r := chance()
	for _, n := range []int{0, 1, 2, 40, 65504, 65520, 65521, api.MaxNode, api.MaxNode + 1} {
		for _, room := range []int{10, 1 << 18, 1 << 22} {
			whole := []byte(someText(r, n+100))
			kept := bytes.Clone(whole)
			s, _, h := opened(t, room, seg(0, framesOf("ab")))
			s.Put(whole[:n])
			s.Put(whole[:n])
			s.Keep(whole[:n])
			h.Fuse(0)
			s.Cut(0)
			s.Put(whole[:n])
			if !bytes.Equal(whole, kept) {
				t.Errorf("%d bytes handed in were changed", n)
			}
		}
	}
}

// P9.4: nothing of what is handed in is kept: what becomes of it later changes nothing.
func TestPutKeepsNothing(t *testing.T) {
	for what, put := range map[string]func(*blocks.Store, []byte){
		"Put":  func(s *blocks.Store, b []byte) { s.Put(b) },
		"Keep": func(s *blocks.Store, b []byte) { s.Keep(b) },
	} {
		s, _, h := opened(t, 1<<20)
		b := append(make([]byte, 0, 64), "hello"...)
		put(s, b)
		fill(b)
		wantBlocks(t, what+", then filled", s, "hello")
		wantNone(t, what+", then filled", s, hashOf("#####"))
		put(s, b)
		clear(b[:cap(b)])
		wantBlocks(t, what+", then cleared", s, "hello", "#####")
		s.Sync()
		wantAgain(t, what, h, "hello", "#####")
	}
}

// P9.4: what Get answers is new memory, spare room too.
func TestGetMemory(t *testing.T) {
	rows := []string{"a", "bb", "ccc", strings.Repeat("d", 100)}
	s, _, h := opened(t, 1<<20, seg(0, framesOf(rows[:2]...)))
	puts(t, s, rows[2:]...)
	for _, b := range rows {
		one, _ := s.Get(hashOf(b))
		two, _ := s.Get(hashOf(b))
		fill(one)
		if string(two) != b {
			t.Errorf("%q: two answers share memory", b)
		}
		wantBlocks(t, "one filled", s, rows...)
		fill(two)
		wantBlocks(t, "both filled", s, rows...)
	}
	puts(t, s, rows...)
	puts(t, s, "e")
	wantAgain(t, "filled", h, append(slices.Clone(rows), "e")...)
}

// P9.4: the blocks that All tells are new memory, each of its own, spare room too, in each range of it.
func TestAllMemory(t *testing.T) {
	rows := []string{"a", "bb", "ccc", strings.Repeat("d", 100), "e"}
	s, _, h := opened(t, 1<<20, seg(0, framesOf(rows[:2]...)), seg(1, framesOf(rows[2])))
	puts(t, s, rows[3:]...)
	seq := s.All()
	first, second := [][]byte{}, [][]byte{}
	for _, b := range seq {
		first = append(first, b)
		for _, b := range seq {
			fill(b)
		}
	}
	for _, b := range seq {
		second = append(second, b)
	}
	for i := range first {
		fill(first[i])
		for k := range rows {
			want := rows[k]
			if k <= i {
				want = strings.Repeat("#", len(want))
			}
			if string(first[k]) != want || string(second[k]) != rows[k] {
				t.Errorf("block %d, when %d was filled: %q, %q", k, i, first[k], second[k])
			}
		}
	}
	for _, b := range second {
		fill(b)
	}
	wantBlocks(t, "all filled", s, rows...)
	wantAgain(t, "all filled", h, rows...)
}

// P9.4: filling within a range what it tells changes nothing of what it tells next.
func TestAllFilledWithin(t *testing.T) {
	s, _, _ := opened(t, 1<<20)
	rows := []string{"a", "bb", "ccc"}
	puts(t, s, rows...)
	i := 0
	for h, b := range s.All() {
		if string(b) != rows[i] || h != hashOf(rows[i]) {
			t.Errorf("block %d: %q", i, b)
		}
		fill(b)
		clear(h[:])
		i++
	}
	wantBlocks(t, "filled", s, rows...)
}

// P9.4: two stores on two disks have nothing in common.
func TestTwoStores(t *testing.T) {
	a, _, ha := opened(t, 1<<20)
	b, _, hb := opened(t, 1<<20, seg(0, framesOf("x")))
	puts(t, a, "1", "2")
	puts(t, b, "2")
	wantNone(t, "one", a, hashOf("x"))
	wantNone(t, "the other", b, hashOf("1"))
	hb.Fuse(0)
	if b.Keep([]byte("3")) != api.ErrPower || a.Keep([]byte("3")) != api.OK || a.Cut(2) != api.OK || b.Sync() != api.ErrPower || a.Sync() != api.OK {
		t.Error("the power of one goes, the other one isn't as it was")
	}
	wantBlocks(t, "one", a, "1", "2")
	wantBlocks(t, "the other", b, "x", "2")
	wantAgain(t, "one", ha, "1", "2")
}
