package blocks_test

import (
	"fmt"
	"math/rand/v2"
	"slices"
	"strings"
	"testing"

	"pleach/api"
	"pleach/blocks"
	"pleach/disk"
)

// step is what a store is told: a Put, if it has a block, a Cut, if cut, else a Sync.
type step struct {
	block string
	cut   bool
	n     int
}

func (s step) String() string {
	switch {
	case s.block != "":
		return fmt.Sprintf("Put of %s", show([]string{s.block}))
	case s.cut:
		return fmt.Sprintf("Cut(%d)", s.n)
	}
	return "Sync"
}

// tells tells a store a step.
func tells(s *blocks.Store, x step) api.Errno {
	switch {
	case x.block != "":
		_, e := s.Put([]byte(x.block))
		return e
	case x.cut:
		return s.Cut(x.n)
	}
	return s.Sync()
}

// hope is what a store may have behind a crash: the first ones of the rows, the first sure ones at least.
type hope struct {
	rows []string
	sure int
}

// after tells the hope behind a step that was answered so.
func (h hope) after(s step, e api.Errno) hope {
	refused := e != api.OK && e != api.ErrPower
	switch {
	case refused:
	case s.block != "":
		if !contains(h.rows, s.block) {
			h.rows = append(slices.Clone(h.rows), s.block)
		}
	case s.cut:
		h.sure = min(h.sure, s.n)
		if e == api.OK {
			h.rows = h.rows[:s.n]
		}
	case e == api.OK:
		h.sure = len(h.rows)
	}
	return h
}

// fits tells whether the blocks may be there.
func (h hope) fits(l []string) bool {
	return len(l) >= h.sure && len(l) <= len(h.rows) && slices.Equal(l, h.rows[:len(l)])
}

// run opens a store on a disk of such files, lets the power go at act number fuse (from behind Open on), and tells it the steps; it tells the disk, and what may be hoped for. Behind the power's going the store must be dead, with what it had ahead of that.
func run(t *testing.T, files []api.File, steps []step, fuse int) (*disk.Disk, *disk.Hand, hope) {
	t.Helper()
	d, h := disk.Lay(1<<24, files)
	s, e := blocks.Open(d)
	if e != api.OK {
		t.Fatalf("Open: %d", e)
	}
	rows := told(t, s)
	hoped := hope{rows: rows, sure: len(rows)}
	h.Fuse(fuse)
	dead := false
	for i, x := range steps {
		e := tells(s, x)
		if dead && e != api.ErrPower {
			t.Errorf("%v: step %d when dead: %d", steps, i, e)
		}
		if !dead {
			hoped = hoped.after(x, e)
		}
		dead = dead || e == api.ErrPower
		if !dead {
			rows = told(t, s)
		}
		wantBlocks(t, fmt.Sprintf("%v, the power going at act %d, step %d", steps, fuse, i), s, rows...)
	}
	if dead != h.Out() {
		t.Errorf("%v, fuse %d: dead %v, the power gone: %v", steps, fuse, dead, h.Out())
	}
	return d, h, hoped
}

// unsafe tells how many bytes aren't safe, of the file that has most of them.
func unsafe(h *disk.Hand) int {
	n := 0
	for _, f := range h.Files() {
		n = max(n, len(f.Bytes)-f.Safe)
	}
	return n
}

// wantCrashes fails, if behind the power's going at any act, or at none, whatever of the unsafe bytes stays (of keeps a step apart), something else is there than may be hoped for.
func wantCrashes(t *testing.T, files []api.File, steps []step, apart int) {
	t.Helper()
	for fuse, more := 0, true; more; fuse++ {
		d, h, hoped := run(t, files, steps, fuse)
		more = h.Out()
		what := fmt.Sprintf("%v, the power gone at act %d", steps, fuse)
		keeps := []int{unsafe(h)}
		for keep := 0; keep < unsafe(h); keep += apart {
			keeps = append(keeps, keep)
		}
		for _, keep := range keeps {
			_, g := h.Copy()
			wantHoped(t, g, hoped, keep, what)
		}
		if more {
			if s, e := blocks.Open(d); s != nil || e != api.ErrPower {
				t.Errorf("%s: Open: %d", what, e)
			}
		}
	}
}

// wantHoped lets the power come again, so many of each file's unsafe bytes staying, and fails, if something else is there than may be hoped for; and if a power cut within that Open changes what the next one tells.
func wantHoped(t *testing.T, h *disk.Hand, hoped hope, keep int, what string) {
	t.Helper()
	keeps := slices.Repeat([]int{keep}, len(h.Files()))
	h.Crash(keeps)
	what = fmt.Sprintf("%s, %d bytes kept", what, keep)
	d, g := h.Copy()
	s, e := blocks.Open(d)
	if e != api.OK {
		t.Fatalf("%s: %d", what, e)
	}
	l := told(t, s)
	if !hoped.fits(l) {
		t.Errorf("%s: %s; hoped for %d of %s", what, show(l), hoped.sure, show(hoped.rows))
	}
	wantBlocks(t, what, s, l...)
	for fuse := range g.Acts() - h.Acts() {
		d, g := h.Copy()
		g.Fuse(fuse)
		if s, e := blocks.Open(d); s != nil || e != api.ErrPower {
			t.Errorf("%s: Open, the power going at act %d: %d", what, fuse, e)
		}
		g.Crash(keeps)
		wantAgain(t, fmt.Sprintf("%s, the power gone at act %d of Open", what, fuse), g, l...)
	}
}

func lay(l ...string) []step {
	s := []step{}
	for _, b := range l {
		s = append(s, step{block: b})
	}
	return s
}

// P9.2: short blocks, with each number of unsafe bytes staying, at every act.
func TestCrashEveryByte(t *testing.T) {
	sync := step{}
	cut := func(n int) step { return step{cut: true, n: n} }
	for _, files := range [][]api.File{
		nil,
		{seg(0, framesOf("x", "yy"))},
		{seg(0, framesOf("x")), seg(1, nil), seg(2, framesOf("yy"))},
		{seg(0, framesOf("x", "yy", "x", "z"))},
		{seg(0, framesOf("x", "ab")), seg(1, framesOf("ab"))},
	} {
		for _, steps := range [][]step{
			nil,
			lay("ab"),
			lay("ab", "c", "ab", "def", "x"),
			append(lay("ab"), sync, sync),
			append(append(lay("ab"), sync), lay("c", "ab", "def")...),
			append(append(append(lay("ab"), sync), lay("c", "def")...), sync, step{block: "g"}),
			append(lay("ab", "c", "def"), cut(1), sync),
			append(lay("ab", "c", "def"), sync, cut(2), step{block: "g"}, sync, cut(0), step{block: "c"}),
			append(lay("ab", "c"), cut(0), step{block: "c"}, cut(1), cut(0), step{block: "c"}, step{block: "ab"}),
			append(lay("ab", "c"), cut(9), cut(-1), cut(2), sync, step{block: "d"}),
		} {
			wantCrashes(t, safe(files), steps, 1)
		}
	}
}

// P9.2: blocks that go into the next segments, and are cut off over several of them.
func TestCrashSegments(t *testing.T) {
	big, half := strings.Repeat("b", 65000), strings.Repeat("h", 33000)
	steps := append(lay("a", big, half, half+"2"), step{})
	steps = append(append(steps, lay(big+"2", "c")...), step{cut: true, n: 5}, step{block: "d"}, step{cut: true, n: 1})
	steps = append(append(steps, lay(big, "e")...), step{}, step{block: "f"}, step{cut: true, n: 0}, step{block: "a"})
	wantCrashes(t, nil, steps, 20011)
	wantCrashes(t, safe([]api.File{seg(0, framesOf("x", big)), seg(1, framesOf("y"))}), steps, 20011)
}

// P9.2: any steps; and what is opened behind a crash is told more, and crashes again.
func TestCrashWords(t *testing.T) {
	r := chance()
	for range 40 {
		files := []api.File{}
		pool := somePool(r)[1:]
		for range 5 {
			steps := someSteps(r, pool)
			d, h, hoped := run(t, safe(files), steps, r.IntN(2*len(steps)+2)-1)
			keep := []int{}
			for range h.Files() {
				keep = append(keep, r.IntN(1<<20))
			}
			_, g := h.Copy()
			wantHoped(t, g, hoped, unsafe(h), fmt.Sprint(steps))
			h.Crash(keep)
			s, e := blocks.Open(d)
			if e != api.OK || !hoped.fits(told(t, s)) {
				t.Fatalf("%v: %d; hoped for %d of %s", steps, e, hoped.sure, show(hoped.rows))
			}
			files = h.Files()
		}
	}
}

// someSteps tells some steps.
func someSteps(r *rand.Rand, pool []string) []step {
	steps := []step{}
	for range 1 + r.IntN(12) {
		switch r.IntN(8) {
		case 0:
			steps = append(steps, step{cut: true, n: r.IntN(9) - 1})
		case 1, 2:
			steps = append(steps, step{})
		default:
			steps = append(steps, step{block: one(r, pool...)})
		}
	}
	return steps
}
