package blocks_test

import (
	"fmt"
	"math/rand/v2"
	"testing"

	"pleach/api"
	"pleach/blocks"
	"pleach/disk"
)

// pair is a store, and the model of one, each on a disk of its own.
type pair struct {
	d, d2 *disk.Disk
	h, h2 *disk.Hand
	s     *blocks.Store
	m     *model
	told  []string
	pool  []string // what is put, so that much of it comes again
}

// wantSame fails, if the two answered otherwise, or aren't the same.
func (p *pair) wantSame(t *testing.T, what string, e, want api.Errno) {
	t.Helper()
	p.told = append(p.told, what)
	if e != want || p.h.Acts() != p.h2.Acts() || p.h.Out() != p.h2.Out() || !sameFiles(p.h.Files(), p.h2.Files()) {
		t.Fatalf("%v: %d, %d acts, %s; want %d, %d acts, %s", p.told, e, p.h.Acts(), showFiles(p.h.Files()), want, p.h2.Acts(), showFiles(p.h2.Files()))
	}
	if p.s == nil {
		return
	}
	wantBlocks(t, fmt.Sprint(p.told), p.s, p.m.rows...)
	for _, b := range p.pool {
		if is := p.s.Has(hashOf(b)); is != contains(p.m.rows, b) {
			t.Fatalf("%v: Has of a block of %d bytes: %v", p.told, len(b), is)
		}
	}
}

// open opens both again.
func (p *pair) open(t *testing.T) {
	t.Helper()
	s, e := blocks.Open(p.d)
	m, e2 := modelOpen(p.d2)
	if (s == nil) != (m == nil) {
		t.Fatalf("%v: Open: %d; want %d", p.told, e, e2)
	}
	if s != nil || p.s == nil {
		p.s, p.m = s, m
	}
	p.wantSame(t, "Open", e, e2)
}

// crash lets the power of both go and come again, and opens them.
func (p *pair) crash(t *testing.T, r *rand.Rand) {
	t.Helper()
	keep := []int{}
	for range p.h.Files() {
		keep = append(keep, r.IntN(1<<20))
	}
	p.h.Crash(keep)
	p.h2.Crash(keep)
	p.told = append(p.told, "Crash")
	p.open(t)
}

// step tells both the same.
func (p *pair) step(t *testing.T, r *rand.Rand) {
	t.Helper()
	switch r.IntN(16) {
	case 0, 1:
		p.wantSame(t, "Sync", p.s.Sync(), p.m.sync())
	case 2, 3:
		n := r.IntN(len(p.m.rows)+3) - 1
		p.wantSame(t, fmt.Sprintf("Cut(%d)", n), p.s.Cut(n), p.m.cut(n))
	case 4:
		p.open(t)
	case 5:
		n := r.IntN(8) - 1
		p.h.Fuse(n)
		p.h2.Fuse(n)
		p.told = append(p.told, fmt.Sprintf("Fuse(%d)", n))
	case 6:
		if r.IntN(2) == 0 {
			p.crash(t, r)
		}
	case 7, 8:
		b := one(r, p.pool...)
		_, want := p.m.put(b)
		p.wantSame(t, fmt.Sprintf("Keep of %d bytes", len(b)), p.s.Keep([]byte(b)), want)
	default:
		b := one(r, p.pool...)
		h, e := p.s.Put([]byte(b))
		h2, e2 := p.m.put(b)
		p.wantSame(t, fmt.Sprintf("Put of %d bytes", len(b)), e, e2)
		if h != h2 {
			t.Fatalf("%v: hash %x; want %x", p.told, h, h2)
		}
	}
}

// somePool tells blocks of all kinds of lengths, some of which may not be.
func somePool(r *rand.Rand) []string {
	l := []string{"", "a", "b"}
	for range 9 {
		l = append(l, someText(r, one(r, 1, 1+r.IntN(20), 1+r.IntN(3000), 30000+r.IntN(10000), 65519, 65520, 65521)))
	}
	return l
}

// P9.1, P9.3: whatever a store is told, in whatever order, with much room or little, and with many files beside it, each answer, each act, what is on the disk and all that it tells is what the words say.
func TestWords(t *testing.T) {
	r := chance()
	for range 100 {
		files := manyFiles(one(r, 0, 1, 252, 254, 256))
		if r.IntN(3) == 0 {
			files = append(files, seg(0, framesOf("a", "x")), seg(1, nil), seg(2, append(framesOf("b", "y", one(r, "a", "z"), "v"), 1)))
		}
		room := one(r, 0, 50, 1000, 100000, 1<<20)
		p := &pair{pool: somePool(r)}
		p.d, p.h = disk.Lay(room, files)
		p.d2, p.h2 = disk.Lay(room, files)
		p.open(t)
		for range 40 {
			p.step(t, r)
		}
	}
}

// P9.1, P9.3: disks on which anything may stand are opened as the words say, the power going at whichever act.
func TestOpenWords(t *testing.T) {
	r := chance()
	for range 1500 {
		files := []api.File{}
		for k := range 1 + r.IntN(4) {
			f := seg(k, nil)
			for range r.IntN(4) {
				f.Bytes = append(f.Bytes, frameOf(string(rune('a'+r.IntN(12))))...)
			}
			if r.IntN(8) == 0 {
				f.Bytes = f.Bytes[:r.IntN(len(f.Bytes)+1)]
			}
			f.Safe = r.IntN(len(f.Bytes) + 1)
			files = append(files, f)
		}
		p := &pair{pool: []string{"a", "b"}, told: []string{showFiles(files)}}
		p.d, p.h = disk.Lay(100, files)
		p.d2, p.h2 = disk.Lay(100, files)
		fuse := r.IntN(8) - 1
		p.h.Fuse(fuse)
		p.h2.Fuse(fuse)
		p.open(t)
		p.crash(t, r)
		p.step(t, r)
	}
}
