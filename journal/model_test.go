package journal_test

import (
	"fmt"
	"math/rand/v2"
	"slices"
	"testing"

	"pleach/api"
	"pleach/disk"
	"pleach/journal"
)

// pair is a journal, and the model of one, each on a disk of its own.
type pair struct {
	d, d2 *disk.Disk
	h, h2 *disk.Hand
	j     *journal.Journal
	m     *model
	told  []string
}

// wantSame fails, if the two answered otherwise, or aren't the same.
func (p *pair) wantSame(t *testing.T, what string, e, want api.Errno) {
	t.Helper()
	p.told = append(p.told, what)
	if e != want || p.h.Acts() != p.h2.Acts() || p.h.Out() != p.h2.Out() || !sameFiles(p.h.Files(), p.h2.Files()) {
		t.Fatalf("%v: %d, %d acts, %s; want %d, %d acts, %s", p.told, e, p.h.Acts(), showFiles(p.h.Files()), want, p.h2.Acts(), showFiles(p.h2.Files()))
	}
	if p.j.Len() != p.m.len() {
		t.Fatalf("%v: Len %d; want %d", p.told, p.j.Len(), p.m.len())
	}
}

// open opens both again.
func (p *pair) open(t *testing.T) {
	t.Helper()
	j, l, e := journal.Open(p.d)
	m, l2, e2 := modelOpen(p.d2, p.h2)
	if !slices.Equal(texts(l), l2) || (j == nil) != (m == nil) {
		t.Fatalf("%v: Open: %s, %d; want %s, %d", p.told, show(texts(l)), e, show(l2), e2)
	}
	if j != nil {
		p.j, p.m = j, m
	}
	p.wantSame(t, "Open", e, e2)
}

// step tells both the same.
func (p *pair) step(t *testing.T, r *rand.Rand) {
	t.Helper()
	switch r.IntN(14) {
	case 0, 1:
		p.wantSame(t, "Sync", p.j.Sync(), p.m.sync())
	case 2:
		n := r.IntN(p.m.len()+3) - 1
		p.wantSame(t, fmt.Sprintf("Keep(%d)", n), p.j.Keep(n), p.m.keep(n))
	case 3:
		p.open(t)
	case 4:
		n := r.IntN(8) - 1
		p.h.Fuse(n)
		p.h2.Fuse(n)
		p.told = append(p.told, fmt.Sprintf("Fuse(%d)", n))
	case 5:
		if r.IntN(2) == 0 {
			return
		}
		keep := []int{}
		for range p.h.Files() {
			keep = append(keep, r.IntN(1<<20))
		}
		p.h.Crash(keep)
		p.h2.Crash(keep)
		p.told = append(p.told, "Crash")
		p.open(t)
	default:
		b := someBytes(r, one(r, 0, 1, r.IntN(20), r.IntN(3000), 30000+r.IntN(10000), 65519, 65520, 65521))
		p.wantSame(t, fmt.Sprintf("Append of %d bytes", len(b)), p.j.Append(b), p.m.append(b))
	}
}

// P8.1 to P8.5: whatever a journal is told, in whatever order, with much room or little, and with many files beside it, each answer, each act and what is on the disk is what the words say.
func TestWords(t *testing.T) {
	r := chance()
	for range 120 {
		files := manyFiles(one(r, 0, 1, 252, 254, 256))
		if r.IntN(3) == 0 {
			files = append(files, seg(0, framesOf("a", "b")), seg(1, nil), seg(2, append(framesOf("c"), 1)))
		}
		room := one(r, 0, 50, 1000, 100000, 1<<20)
		p := &pair{}
		p.d, p.h = disk.Lay(room, files)
		p.d2, p.h2 = disk.Lay(room, files)
		p.open(t)
		for range 40 {
			p.step(t, r)
		}
	}
}
