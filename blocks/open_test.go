package blocks_test

import (
	"fmt"
	"slices"
	"strings"
	"testing"

	"pleach/api"
	"pleach/blocks"
	"pleach/disk"
)

// wantOpen fails, if Open of a disk of such files tells other blocks, or does other acts.
func wantOpen(t *testing.T, what string, files []api.File, rows []string, acts ...act) {
	t.Helper()
	d, _ := disk.Lay(0, files)
	s, e := blocks.Open(d)
	if s == nil || e != api.OK {
		t.Fatalf("%s: %d", what, e)
	}
	wantBlocks(t, what, s, rows...)
	wantActs(t, what, func() (*disk.Hand, func() api.Errno) {
		d, h := disk.Lay(0, files)
		return h, func() api.Errno {
			s, e := blocks.Open(d)
			if (s == nil) != (e != api.OK) {
				t.Errorf("%s: a store: %v, beside error %d", what, s != nil, e)
			}
			return e
		}
	}, acts...)
}

// P9.1: no disk, and one whose power is gone; nothing is done then.
func TestOpenRefused(t *testing.T) {
	if s, e := blocks.Open(nil); s != nil || e != api.ErrArg {
		t.Errorf("Open(nil): %v, %d", s, e)
	}
	for _, files := range [][]api.File{nil, {seg(0, framesOf("ab"))}, {seg(0, framesOf("a", "a"))}} {
		d, h := disk.Lay(100, files)
		h.Fuse(0)
		d.Append("x", nil)
		before := h.Files()
		if s, e := blocks.Open(d); s != nil || e != api.ErrPower || h.Acts() != 1 || !sameFiles(h.Files(), before) {
			t.Errorf("the power gone: %v, %d, %d acts", s, e, h.Acts())
		}
	}
}

// P9.1: journals in which no payload comes again, torn ones too: the acts are those of the journal's Open alone.
func TestOpen(t *testing.T) {
	wantOpen(t, "an empty disk", nil, nil)
	wantOpen(t, "an empty segment", []api.File{seg(0, nil)}, nil, syncs(0))
	wantOpen(t, "one block", []api.File{seg(0, framesOf("a"))}, []string{"a"}, syncs(0))
	wantOpen(t, "three", []api.File{seg(0, framesOf("a", "bb")), seg(1, framesOf("c"))}, []string{"a", "bb", "c"}, syncs(1))
	wantOpen(t, "torn", []api.File{seg(0, framesOf("a")), seg(1, append(framesOf("b"), 1)), seg(2, framesOf("c"))}, []string{"a", "b"}, drops(2), cuts(1, 17), syncs(1))
	wantOpen(t, "a gap", []api.File{seg(0, framesOf("a")), seg(2, framesOf("a"))}, []string{"a"}, drops(2), syncs(0))
	wantOpen(t, "again behind a tear", []api.File{seg(0, slices.Concat(framesOf("a"), []byte{1}, framesOf("a")))}, []string{"a"}, cuts(0, 17), syncs(0))
	wantOpen(t, "another's file", []api.File{seg(0, framesOf("a")), {Name: "x", Bytes: []byte{1}}}, []string{"a"}, syncs(0))
	most := strings.Repeat("m", api.MaxNode)
	wantOpen(t, "MaxNode", []api.File{seg(0, framesOf("a", most, "b"))}, []string{"a", most, "b"}, syncs(0))
}

// P9.1, P9.3: the chapter's example, and a payload that comes again at each place, of each one ahead of it: what stands from there on goes, be it new or not.
func TestOpenAgain(t *testing.T) {
	x, y := "\x01", "\x02\x02"
	wantOpen(t, "x y x y", []api.File{seg(0, framesOf(x, y, x, y))}, []string{x, y}, syncs(0), cuts(0, 35))
	wantOpen(t, "x x", []api.File{seg(0, framesOf(x, x))}, []string{x}, syncs(0), cuts(0, 17))
	wantOpen(t, "x y y z", []api.File{seg(0, framesOf(x, y, y, "z"))}, []string{x, y}, syncs(0), cuts(0, 35))
	rows := []string{"a", "bb", "ccc", "dddd"}
	for at := 1; at <= len(rows); at++ {
		for of := range at {
			l := slices.Concat(rows[:at], []string{rows[of]}, rows[at:])
			what := fmt.Sprintf("%d again at %d", of, at)
			wantOpen(t, what, []api.File{seg(0, framesOf(l...))}, rows[:at], syncs(0), cuts(0, len(framesOf(rows[:at]...))))
			files, acts := []api.File{}, []act{syncs(len(l) - 1)}
			for k, b := range l {
				files = append(files, seg(k, framesOf(b)))
			}
			for k := len(l) - 1; k > at; k-- {
				acts = append(acts, drops(k))
			}
			wantOpen(t, what+", a segment each", files, rows[:at], append(acts, cuts(at, 0))...)
		}
	}
	torn := []api.File{seg(0, framesOf("a", "b")), seg(1, framesOf("c", "b", "d")), seg(2, append(framesOf("e"), 7)), seg(3, framesOf("f"))}
	wantOpen(t, "again, and torn", torn, []string{"a", "b", "c"}, drops(3), cuts(2, 17), syncs(2), drops(2), cuts(1, 17))
}

// P9.1: the store that is left when a payload came again is one like any other.
func TestOpenAgainThenTold(t *testing.T) {
	files := []api.File{seg(0, framesOf("a", "b")), seg(1, framesOf("c", "a", "d")), seg(2, framesOf("e"))}
	wantCall(t, "Put of one that went", files, nil, putting("d"), api.OK, appends(1, "d"))
	wantCall(t, "Put of one that is there", files, nil, putting("a"), api.OK)
	wantCall(t, "Sync", files, nil, syncing, api.OK)
	wantCall(t, "Cut(Len)", files, nil, cutting(3), api.OK)
	wantCall(t, "Cut(Len + 1)", files, nil, cutting(4), api.ErrRange)
	wantCall(t, "Cut(1)", files, nil, cutting(1), api.OK, drops(1), cuts(0, 17))
	s, _, h := opened(t, 1<<10, files...)
	wantNone(t, "gone", s, hashOf("d"), hashOf("e"))
	puts(t, s, "e", "a", "d")
	wantBlocks(t, "put again", s, "a", "b", "c", "e", "d")
	wantAgain(t, "put again", h, "a", "b", "c", "e", "d")
}

// P9.1, P9.2: the power going at an act of Open, the journal's Keep's too: no store; and behind it the next Open tells what this one would have told.
func TestOpenKeepRefused(t *testing.T) {
	files := safe([]api.File{seg(0, framesOf("a", "b")), seg(1, framesOf("c", "a", "d")), seg(2, framesOf("e")), seg(3, append(framesOf("f"), 1))})
	d, h := disk.Lay(0, files)
	if _, e := blocks.Open(d); e != api.OK || h.Acts() != 5 { // Cut and Sync of j0003; Drop of it, of j0002, Cut of j0001
		t.Fatalf("Open: %d, %d acts", e, h.Acts())
	}
	for first := range 5 {
		for second := range 6 {
			d, h := disk.Lay(0, files)
			h.Fuse(first)
			if s, e := blocks.Open(d); s != nil || e != api.ErrPower || h.Acts() != first+1 {
				t.Errorf("the power going at act %d: %v, %d, %d acts", first, s, e, h.Acts())
			}
			h.Crash(nil)
			h.Fuse(second)
			blocks.Open(d)
			h.Crash(nil)
			s, e := blocks.Open(d)
			if e != api.OK {
				t.Fatalf("the power gone at acts %d and %d: %d", first, second, e)
			}
			wantBlocks(t, fmt.Sprintf("the power gone at acts %d and %d", first, second), s, "a", "b", "c")
		}
	}
}

// P9.2: opened again on its disk a store has what it had, whatever it was told; and then again.
func TestOpenedAgain(t *testing.T) {
	r := chance()
	for range 40 {
		s, d, h := opened(t, 1<<20)
		pool := somePool(r)
		for range 4 {
			for range 12 {
				one(r, putting(one(r, pool...)), keeping(one(r, pool...)), syncing, cutting(r.IntN(s.Len()+2)))(s)
			}
			rows := told(t, s)
			acts := h.Acts()
			var e api.Errno
			if s, e = blocks.Open(d); e != api.OK || h.Acts() > acts+1 {
				t.Fatalf("opened again: %d, %d acts", e, h.Acts()-acts)
			}
			wantBlocks(t, "opened again", s, rows...)
		}
	}
}
