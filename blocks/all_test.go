package blocks_test

import (
	"fmt"
	"iter"
	"slices"
	"testing"

	"pleach/api"
	"pleach/blocks"
)

// P9.1: All isn't nil, and tells nothing of a store without blocks.
func TestAllOfNone(t *testing.T) {
	s, _, h := opened(t, 1<<10)
	if s.All() == nil {
		t.Fatal("nil")
	}
	for range s.All() {
		t.Error("a block from nowhere")
	}
	if h.Acts() != 0 {
		t.Errorf("%d acts", h.Acts())
	}
}

// P9.1: All is left early, at each place, and ranged over again; it does no act.
func TestAllLeftEarly(t *testing.T) {
	s, _, h := opened(t, 1<<10)
	rows := []string{"a", "bb", "ccc", "d"}
	puts(t, s, rows...)
	acts := h.Acts()
	seq := s.All()
	for n := 1; n <= len(rows); n++ {
		l := []string{}
		for g, b := range seq {
			if g != hashOf(string(b)) {
				t.Errorf("%x with %q", g, b)
			}
			l = append(l, string(b))
			if len(l) == n {
				break
			}
		}
		if !slices.Equal(l, rows[:n]) {
			t.Errorf("left behind %d: %s", n, show(l))
		}
	}
	for n := range rows {
		calls := 0
		seq(func(api.Hash, []byte) bool { calls++; return calls <= n })
		if calls != n+1 {
			t.Errorf("told to end at %d: %d calls", n+1, calls)
		}
	}
	if h.Acts() != acts {
		t.Errorf("%d acts", h.Acts()-acts)
	}
}

// P9.1: All is ranged over within a range of itself: each range tells all, in their order.
func TestAllWithinItself(t *testing.T) {
	s, _, _ := opened(t, 1<<10)
	rows := []string{"a", "bb", "ccc"}
	puts(t, s, rows...)
	seq := s.All()
	pairs := []string{}
	for _, x := range seq {
		for _, y := range seq {
			if string(y) == "ccc" && string(x) == "bb" {
				break
			}
			pairs = append(pairs, string(x)+string(y))
		}
	}
	if want := []string{"aa", "abb", "accc", "bba", "bbbb", "ccca", "cccbb", "cccccc"}; !slices.Equal(pairs, want) {
		t.Errorf("%v", pairs)
	}
	next, stop := iter.Pull2(seq)
	defer stop()
	for i := range len(rows) + 2 {
		_, b, more := next()
		if more != (i < len(rows)) || more && string(b) != rows[i] {
			t.Errorf("pulled %d: %q, %v", i, b, more)
		}
		for range seq {
			break
		}
	}
}

// P9.1: what is told is what was there when the range began, not when All was called.
func TestAllBeginsWithTheRange(t *testing.T) {
	s, _, _ := opened(t, 1<<10)
	seq := s.All()
	wants := func(what string, want ...string) {
		t.Helper()
		l := []string{}
		for _, b := range seq {
			l = append(l, string(b))
		}
		if !slices.Equal(l, want) {
			t.Errorf("%s: %s; want %s", what, show(l), show(want))
		}
	}
	wants("none")
	puts(t, s, "a", "b")
	wants("two put", "a", "b")
	s.Cut(1)
	wants("one cut off", "a")
	puts(t, s, "c", "b")
	wants("put again", "a", "c", "b")
	s.Cut(0)
	wants("all cut off")
}

// P9.1: blocks that are put and cut within a range change nothing of what it tells, though others take their numbers.
func TestAllWhileChanging(t *testing.T) {
	rows := []string{"a", "bb", "ccc", "d"}
	for at := range rows {
		for n := range len(rows) + 1 {
			s, _, _ := opened(t, 1<<10)
			puts(t, s, rows...)
			l, inner, i := []string{}, []string{}, 0
			for g, b := range s.All() {
				if i == at {
					if e := s.Cut(n); e != api.OK {
						t.Fatal(e)
					}
					puts(t, s, "x", "yy", "zzz", "a", "w")
					inner = told(t, s)
				}
				if g != hashOf(string(b)) {
					t.Errorf("%x with %q", g, b)
				}
				l = append(l, string(b))
				i++
			}
			what := fmt.Sprintf("cut to %d at %d", n, at)
			now := append(slices.Clone(rows[:n]), "x", "yy", "zzz", "a", "w")
			if n > 0 {
				now = slices.Delete(now, n+3, n+4)
			}
			if !slices.Equal(l, rows) || !slices.Equal(inner, now) {
				t.Errorf("%s: %s, within it %s; want %s", what, show(l), show(inner), show(now))
			}
			wantBlocks(t, what, s, now...)
		}
	}
}

// P9.1: a range within which the power goes is told to its end; so is one of a dead store.
func TestAllWhileDying(t *testing.T) {
	s, _, h := opened(t, 1<<10)
	puts(t, s, "a", "b", "c")
	l := []string{}
	for _, b := range s.All() {
		h.Fuse(0)
		if e := s.Cut(0); e != api.ErrPower {
			t.Errorf("Cut: %d", e)
		}
		l = append(l, string(b))
	}
	if !slices.Equal(l, []string{"a", "b", "c"}) {
		t.Errorf("dying: %s", show(l))
	}
	wantBlocks(t, "dead", s, "a", "b", "c")
}

// keeper is what layer 12 asks of a store.
type keeper interface{ Keep(b []byte) api.Errno }

var _ keeper = (*blocks.Store)(nil)
