package journal_test

import (
	"bytes"
	"slices"
	"testing"

	"pleach/api"
	"pleach/disk"
	"pleach/journal"
)

// P8.8: what is handed in stays as it was, its spare room too, whatever is answered.
func TestHandedIn(t *testing.T) {
	r := chance()
	for _, n := range []int{0, 1, 2, 40, 65504, 65505, 65520, 65521, api.MaxNode, api.MaxNode + 1} {
		whole := someBytes(r, n+100)
		kept := bytes.Clone(whole)
		j, _, _ := opened(t, 1<<18, seg(0, framesOf("ab")))
		j.Append(whole[:n])
		if !bytes.Equal(whole, kept) {
			t.Errorf("%d bytes handed in were changed", n)
		}
	}
}

// P8.8: Append keeps nothing of what it was handed: what becomes of that later changes nothing.
func TestAppendKeepsNothing(t *testing.T) {
	j, d, h := opened(t, 1<<20)
	b := []byte("hello")
	lays(t, j, "a")
	if e := j.Append(b); e != api.OK {
		t.Fatal(e)
	}
	copy(b, "HELLO")
	lays(t, j, "b")
	copy(b, "jello")
	j.Sync()
	wantPayloads(t, "changed behind Append", h, "a", "hello", "b")
	if j.Keep(2) != api.OK || j.Append(b) != api.OK {
		t.Error("refused")
	}
	clear(b)
	if _, l, _ := journal.Open(d); !slices.Equal(texts(l), []string{"a", "hello", "jello"}) {
		t.Errorf("changed behind Append: %s", show(texts(l)))
	}
}

// P8.8: payloads are new memory, each of its own, spare room too; what becomes of them changes no other one, nor what is told next.
func TestPayloadsMemory(t *testing.T) {
	rows := []string{"a", "bb", "ccc", "dddd", "e"}
	d, h := disk.Lay(1<<10, []api.File{seg(0, framesOf(rows[:3]...)), seg(1, framesOf(rows[3:]...))})
	j, l, e := journal.Open(d)
	if e != api.OK {
		t.Fatal(e)
	}
	before := h.Files()
	for i := range l {
		row := l[i][:cap(l[i])]
		for k := range row {
			row[k] = '#'
		}
		for k := range l {
			want := rows[k]
			if k <= i {
				want = string(bytes.Repeat([]byte{'#'}, len(want)))
			}
			if string(l[k]) != want {
				t.Errorf("payload %d, when %d was filled: %q", k, i, l[k])
			}
		}
	}
	if !sameFiles(h.Files(), before) {
		t.Error("the disk has changed")
	}
	lays(t, j, "f")
	wantPayloads(t, "payloads filled", h, append(slices.Clone(rows), "f")...)
}

// P8.8: two journals on two disks have nothing in common.
func TestTwoJournals(t *testing.T) {
	a, _, ha := opened(t, 1<<20)
	b, _, hb := opened(t, 1<<20, seg(0, framesOf("x")))
	big := string(make([]byte, 65500))
	lays(t, a, "1", big)
	lays(t, b, "2")
	lays(t, a, "3", "4")
	hb.Fuse(0)
	if b.Append([]byte("5")) != api.ErrPower || a.Append([]byte("6")) != api.OK || a.Sync() != api.OK || b.Sync() != api.ErrPower {
		t.Error("the power of one goes, the other one isn't as it was")
	}
	hb.Crash(nil)
	if a.Keep(4) != api.OK || a.Len() != 4 || b.Len() != 2 {
		t.Errorf("Len: %d, %d", a.Len(), b.Len())
	}
	wantPayloads(t, "one", ha, "1", big, "3", "4")
	wantPayloads(t, "the other", hb, "x")
}

// P8.8, R1: whatever becomes of a journal's segments behind its back, each call ends.
func TestChangedBehindItsBack(t *testing.T) {
	r := chance()
	for range 400 {
		j, d, _ := opened(t, 1<<18)
		for range 30 {
			k := segmentName(r.IntN(4))
			switch r.IntN(9) {
			case 0:
				d.Drop(k)
			case 1:
				d.Cut(k, r.IntN(20))
			case 2:
				d.Append(k, someBytes(r, r.IntN(40)))
			case 3:
				j.Keep(r.IntN(6))
			case 4:
				j.Sync()
			case 5:
				if other, _, e := journal.Open(d); e == api.OK {
					other.Append([]byte("other"))
				}
			default:
				j.Append(make([]byte, one(r, 1, 30, 30000, 65520)))
			}
			if n := j.Len(); n < 0 {
				t.Fatalf("Len: %d", n)
			}
		}
	}
}
